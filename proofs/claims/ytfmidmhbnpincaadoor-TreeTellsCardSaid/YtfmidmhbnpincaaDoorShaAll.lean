/- ShaAll: U32, ShaP, ShaQ, PadP, SumP, ShaA, ShaB, ShaC, ShaD, ShaE, ShaF, ShaG, PadQ, in one text. -/
import Derived.WalkKit
import Derived.Test.YtfmidmhbnpincaaDoorGenA
import Derived.Lib.UnsafeStr
import Derived.Lib.AppendStr
import Derived.Test.YtfmidmhbnpincaaDoorProg
import Derived.WalkSpells
import Derived.Deep.QuietTactic
import Derived.BigQuiet
import Derived.Lib.Hide
import Derived.StillTailTactics
import Derived.Deep.DeepCutAuto
import Derived.Deep.RegionHeld3
import Derived.Test.YtfmidmhbnpincaaDoorBld
import Derived.Laws.IdiomStrings
import Derived.KernelRfl
/- Plain facts on 32-bit words: 'wv x' is the number that the model keeps for the word x. No program is named here. -/
namespace Go.Proofs.YtfmidmhbnpincaaDoor
open Go.RowKit
def wv (x : BitVec 32) : Int := x.toNat
theorem u32_lo (x : BitVec 32) : 0 ≤ wv x := Int.natCast_nonneg _
theorem u32_hi (x : BitVec 32) : wv x < 4294967296 := by have := x.isLt; unfold wv; omega
theorem u32_add (x y : BitVec 32) : (wv x + wv y) % 4294967296 = wv (x + y) := by
  rw [wv, wv, wv, BitVec.toNat_add]; omega
theorem u32_addw (x y : BitVec 32) : IntKind.u32.wrap (wv x + wv y) = wv (x + y) := by
  rw [IntKind.wrap_u32']; exact u32_add x y
theorem u32_add3 (x y z : BitVec 32) : (wv x + wv y + wv z) % 4294967296 = wv (x + y + z) := by rw [← u32_add, ← u32_add]; omega
theorem u32_add4 (x y z v : BitVec 32) : (wv x + wv y + wv z + wv v) % 4294967296 = wv (x + y + z + v) := by rw [← u32_add, ← u32_add, ← u32_add]; omega
theorem ofInt_u32' (x : BitVec 32) : BitVec.ofInt 32 (wv x) = x := by
  unfold wv; rw [BitVec.ofInt_natCast, BitVec.ofNat_toNat]; simp
theorem u32_back (x : BitVec 32) : IntKind.u32.wrap (x.toNat : Int) = wv x := by
  have := x.isLt; rw [IntKind.wrap_u32', wv]; omega
theorem u32_xor (x y : BitVec 32) : bits .xor .u32 (wv x) (wv y) = wv (x ^^^ y) := by
  show IntKind.u32.wrap ((BitVec.ofInt 32 (wv x) ^^^ BitVec.ofInt 32 (wv y)).toNat : Int) = _
  rw [ofInt_u32', ofInt_u32', u32_back]
theorem u32_and (x y : BitVec 32) : bits .and .u32 (wv x) (wv y) = wv (x &&& y) := by
  show IntKind.u32.wrap ((BitVec.ofInt 32 (wv x) &&& BitVec.ofInt 32 (wv y)).toNat : Int) = _
  rw [ofInt_u32', ofInt_u32', u32_back]
theorem u32_or (x y : BitVec 32) : bits .or .u32 (wv x) (wv y) = wv (x ||| y) := by
  show IntKind.u32.wrap ((BitVec.ofInt 32 (wv x) ||| BitVec.ofInt 32 (wv y)).toNat : Int) = _
  rw [ofInt_u32', ofInt_u32', u32_back]
theorem u32_not (x : BitVec 32) : bits .xor .u32 IntKind.u32.max (wv x) = wv (~~~ x) := by
  show IntKind.u32.wrap ((BitVec.ofInt 32 IntKind.u32.max ^^^ BitVec.ofInt 32 (wv x)).toNat : Int) = _
  rw [ofInt_u32', show BitVec.ofInt 32 IntKind.u32.max = BitVec.allOnes 32 from by decide, BitVec.allOnes_xor, u32_back]
theorem u32_not' (x : BitVec 32) : bits .xor .u32 4294967295 (wv x) = wv (~~~ x) := u32_not x
theorem u32_shr (x : BitVec 32) (n : Nat) : wv x / 2 ^ n = wv (x >>> n) := by
  unfold wv; rw [BitVec.toNat_ushiftRight, Nat.shiftRight_eq_div_pow]; simp
theorem u32_shl (x : BitVec 32) (n : Nat) : wv x * 2 ^ n % 4294967296 = wv (x <<< n) := by
  unfold wv; rw [BitVec.toNat_shiftLeft, Nat.shiftLeft_eq]; simp
def ror (x : BitVec 32) (n : Nat) : BitVec 32 := x <<< (32 - n) ||| x >>> n
theorem u64_neg_and (n : Nat) (h1 : 1 ≤ n) (h2 : n ≤ 31) : bits BinOp.and IntKind.u64 (IntKind.u64.wrap (-(n : Int))) 31 = 32 - (n : Int) := by
  rw [u64_and _ _ (by rw [IntKind.wrap_u64]; omega) (by rw [IntKind.wrap_u64]; omega) (by omega) (by omega), IntKind.wrap_u64,
    show ((31 : Int).toNat) = 31 from rfl, nat_mask5]
  omega
theorem ret_int {k : IntKind} {a b : Int} (h : a = b) : Ending.returned (.int k a) = .returned (.int k b) := by rw [h]
def byteW (b : UInt8) : BitVec 32 := BitVec.ofNat 32 b.toNat
theorem u32_byte (b : UInt8) : (b.toNat : Int) % 4294967296 = wv (byteW b) := by
  unfold wv byteW; rw [BitVec.toNat_ofNat]; omega
theorem u32_byte' (b : UInt8) : (b.toNat : Int) = wv (byteW b) := by
  have := b.toNat_lt; unfold wv byteW; rw [BitVec.toNat_ofNat]; omega
/-- the word that four bytes are -/
def beWord (a b c d : UInt8) : BitVec 32 := byteW a <<< 24 ||| byteW b <<< 16 ||| byteW c <<< 8 ||| byteW d
theorem beWord_eq (a b c d : UInt8) : bits BinOp.or IntKind.u32 (bits BinOp.or IntKind.u32 (bits BinOp.or IntKind.u32 ((a.toNat : Int) % 4294967296 * 16777216 % 4294967296)
    ((b.toNat : Int) % 4294967296 * 65536 % 4294967296)) ((c.toNat : Int) % 4294967296 * 256 % 4294967296)) ((d.toNat : Int) % 4294967296) = wv (beWord a b c d) := by
  rw [u32_byte, u32_byte, u32_byte, u32_byte, show (16777216 : Int) = 2 ^ 24 from rfl, show (65536 : Int) = 2 ^ 16 from rfl, show (256 : Int) = 2 ^ 8 from rfl,
    u32_shl, u32_shl, u32_shl, u32_or, u32_or, u32_or]; rfl
/-- the i-th word of bytes -/
def wordL (l : List UInt8) (i : Nat) : BitVec 32 := beWord (l.getD (4 * i) 0) (l.getD (4 * i + 1) 0) (l.getD (4 * i + 2) 0) (l.getD (4 * i + 3) 0)
theorem byte_getD (s : ByteArray) (k : Nat) (h : k < s.size) : s.data.toList.getD k 0 = s[k] := by
  have h' : k < s.data.size := h
  rw [List.getD_eq_getElem?_getD, Array.getElem?_toList, Array.getElem?_eq_getElem h']
  rfl
theorem extract_byte (s : ByteArray) (i j k : Nat) (h : k < (s.extract i j).size) : (s.extract i j)[k] = s.data.toList.getD (i + k) 0 := by
  have h1 := h; rw [ByteArray.size_extract] at h1
  rw [byte_getD s (i + k) (by omega)]
  exact ByteArray.getElem_extract ..
end Go.Proofs.YtfmidmhbnpincaaDoor
/- Plain: arrays of words as the model keeps them; one round of the hash; no program is named here. -/
namespace Go.Proofs.YtfmidmhbnpincaaDoor
open Go.RowKit
def uarr (n : Nat) (f : Nat → BitVec 32) : Array Value := ((List.range n).map fun j => Value.int .u32 (wv (f j))).toArray
def upd {α : Type} (f : Nat → α) (k : Nat) (x : α) : Nat → α := fun j => if j = k then x else f j
theorem uarr_get (n : Nat) (f : Nat → BitVec 32) (i : Nat) (h : i < n) : (uarr n f)[i]? = some (.int .u32 (wv (f i))) := by
  simp [uarr, h]
theorem uarr_size (n : Nat) (f : Nat → BitVec 32) : (uarr n f).size = n := by simp [uarr]
theorem uarr_one (n : Nat) (f : Nat → BitVec 32) : (uarr n f).all (·.oneCell') = true := by
  rw [Array.all_eq_true_iff_forall_mem]; intro x hx; simp only [uarr, List.mem_toArray, List.mem_map] at hx; obtain ⟨_, _, rfl⟩ := hx; rfl
theorem uarr_congr (n : Nat) (f g : Nat → BitVec 32) (h : ∀ i, i < n → f i = g i) : uarr n f = uarr n g := by
  unfold uarr; congr 1; apply List.map_congr_left; intro a ha; rw [h a (by simpa using ha)]
theorem uarr_set (n : Nat) (f : Nat → BitVec 32) (k : Nat) (x : BitVec 32) : (uarr n f).setIfInBounds k (.int .u32 (wv x)) = uarr n (upd f k x) := by
  apply Array.ext_getElem?
  intro i
  rw [Array.getElem?_setIfInBounds]
  by_cases hk : k = i
  · subst hk
    by_cases hl : k < n
    · rw [if_pos rfl, if_pos (by rw [uarr_size]; exact hl), uarr_get _ _ _ hl]; simp [upd]
    · simp [uarr, hl]
  · by_cases hl : i < n
    · rw [if_neg hk, uarr_get _ _ _ hl, uarr_get _ _ _ hl]; simp [upd, Ne.symm hk]
    · simp [uarr, hl, hk]
theorem u32_zero : wv 0 = 0 := rfl
def T1 (e f g h kc x : BitVec 32) : BitVec 32 := h + (ror e 6 ^^^ ror e 11 ^^^ ror e 25) + (e &&& f ^^^ ~~~e &&& g) + kc + x
def T2 (a b c : BitVec 32) : BitVec 32 := (ror a 2 ^^^ ror a 13 ^^^ ror a 22) + (a &&& b ^^^ a &&& c ^^^ b &&& c)
theorem T1_eq (e f g h kc x : BitVec 32) : h + (ror e 6 ^^^ ror e 11 ^^^ ror e 25) + (e &&& f ^^^ ~~~e &&& g) + kc + x = T1 e f g h kc x := rfl
theorem T2_eq (a b c : BitVec 32) : (ror a 2 ^^^ ror a 13 ^^^ ror a 22) + (a &&& b ^^^ a &&& c ^^^ b &&& c) = T2 a b c := rfl
def sg0 (x : BitVec 32) : BitVec 32 := ror x 7 ^^^ ror x 18 ^^^ x >>> 3
def sg1 (x : BitVec 32) : BitVec 32 := ror x 17 ^^^ ror x 19 ^^^ x >>> 10
/-- the i-th word of the schedule, from a ring of the sixteen before it -/
def sched (f : Nat → BitVec 32) (i : Nat) : BitVec 32 :=
  f (i % 16) + ((ror (f ((i - 15) % 16)) 7 ^^^ ror (f ((i - 15) % 16)) 18 ^^^ f ((i - 15) % 16) >>> 3) + f ((i - 7) % 16) + (ror (f ((i - 2) % 16)) 17 ^^^ ror (f ((i - 2) % 16)) 19 ^^^ f ((i - 2) % 16) >>> 10))
def ring (f : Nat → BitVec 32) (i : Nat) : Nat → BitVec 32 := if 16 ≤ i then upd f (i % 16) (sched f i) else f
/-- the state of a block's rounds: the ring of words, and the eight numbers -/
structure St where
  w : Nat → BitVec 32
  a : BitVec 32
  b : BitVec 32
  c : BitVec 32
  d : BitVec 32
  e : BitVec 32
  f : BitVec 32
  g : BitVec 32
  h : BitVec 32
def St.step (K : Nat → BitVec 32) (s : St) (i : Nat) : St :=
  { w := ring s.w i, a := T1 s.e s.f s.g s.h (K i) (ring s.w i (i % 16)) + T2 s.a s.b s.c, b := s.a, c := s.b, d := s.c,
    e := s.d + T1 s.e s.f s.g s.h (K i) (ring s.w i (i % 16)), f := s.e, g := s.f, h := s.g }
def St.run (K : Nat → BitVec 32) (s : St) : Nat → St
  | 0 => s
  | n + 1 => (St.run K s n).step K n
def St.ofHash (w h : Nat → BitVec 32) : St := { w := w, a := h 0, b := h 1, c := h 2, d := h 3, e := h 4, f := h 5, g := h 6, h := h 7 }
def St.out (s : St) (j : Nat) : BitVec 32 := match j with | 0 => s.a | 1 => s.b | 2 => s.c | 3 => s.d | 4 => s.e | 5 => s.f | 6 => s.g | 7 => s.h | _ => 0
/-- the hash h with a block's words w put to it -/
def compressF (K w h : Nat → BitVec 32) : Nat → BitVec 32 := fun j => h j + ((St.ofHash w h).run K 64).out j
end Go.Proofs.YtfmidmhbnpincaaDoor
/- Plain: the bytes of a hash. No program is named here. -/
namespace Go.Proofs.YtfmidmhbnpincaaDoor
open Go.RowKit
/-- byte j of a word, the highest first -/
def byteOf (x : BitVec 32) (j : Nat) : UInt8 := UInt8.ofNat (x >>> (24 - 8 * j)).toNat
theorem byteOf_eq (x : BitVec 32) (j : Nat) : wv (x >>> (24 - 8 * j)) % 256 = ((byteOf x j).toNat : Int) := by
  unfold wv byteOf; rw [UInt8.toNat_ofNat']; omega
/-- the 32 bytes of a hash -/
def hashBytes (h : Nat → BitVec 32) : List UInt8 := tab 32 fun j => byteOf (h (j / 4)) (j % 4)
end Go.Proofs.YtfmidmhbnpincaaDoor
/- Plain: what bytes are filled up to. No program is named here. -/
namespace Go.Proofs.YtfmidmhbnpincaaDoor
def padZ (n : Nat) : Nat := (119 - n % 64) % 64
def lenB (n i : Nat) : UInt8 := UInt8.ofNat (8 * n / 2 ^ (56 - 8 * i))
theorem lenB_eq (n i : Nat) : ((lenB n i).toNat : Int) = (8 * (n : Int)) / 2 ^ (56 - 8 * i) % 256 := by
  unfold lenB; rw [UInt8.toNat_ofNat']
  simp
def padHead (l : List UInt8) (k : Nat) : List UInt8 := l ++ [128] ++ List.replicate k 0
def padTo (l : List UInt8) (i : Nat) : List UInt8 := padHead l (padZ l.length) ++ (List.range i).map (lenB l.length)
def padL (l : List UInt8) : List UInt8 := padTo l 8
theorem padHead_succ (l : List UInt8) (k : Nat) : padHead l (k + 1) = padHead l k ++ [0] := by simp [padHead, List.replicate_succ']
theorem padTo_succ (l : List UInt8) (i : Nat) : padTo l (i + 1) = padTo l i ++ [lenB l.length i] := by simp [padTo, List.range_succ]
theorem padHead_len (l : List UInt8) (k : Nat) : (padHead l k).length = l.length + 1 + k := by simp [padHead]; omega
theorem padTo_len (l : List UInt8) (i : Nat) : (padTo l i).length = l.length + 1 + padZ l.length + i := by simp [padTo, padHead]; omega
theorem padZ_lt (n : Nat) : padZ n < 64 := Nat.mod_lt _ (by omega)
theorem padL_mod (l : List UInt8) : (padL l).length % 64 = 0 := by
  have := padTo_len l 8; unfold padL; unfold padZ at this; omega
theorem byteCells_snoc (l : List UInt8) (b : UInt8) (c : Int) (h : (b.toNat : Int) = c) : Lib.byteCells l ++ [.int .u8 c] = Lib.byteCells (l ++ [b]) := by
  subst h; simp [Lib.byteCells]
theorem byteCells_len (l : List UInt8) : (Lib.byteCells l).length = l.length := by simp [Lib.byteCells]
end Go.Proofs.YtfmidmhbnpincaaDoor
/- Plain: the hash of bytes. No program is named here. -/
namespace Go.Proofs.YtfmidmhbnpincaaDoor
def kList : List (BitVec 32) := [
  0x428a2f98, 0x71374491, 0xb5c0fbcf, 0xe9b5dba5, 0x3956c25b, 0x59f111f1, 0x923f82a4, 0xab1c5ed5,
  0xd807aa98, 0x12835b01, 0x243185be, 0x550c7dc3, 0x72be5d74, 0x80deb1fe, 0x9bdc06a7, 0xc19bf174,
  0xe49b69c1, 0xefbe4786, 0x0fc19dc6, 0x240ca1cc, 0x2de92c6f, 0x4a7484aa, 0x5cb0a9dc, 0x76f988da,
  0x983e5152, 0xa831c66d, 0xb00327c8, 0xbf597fc7, 0xc6e00bf3, 0xd5a79147, 0x06ca6351, 0x14292967,
  0x27b70a85, 0x2e1b2138, 0x4d2c6dfc, 0x53380d13, 0x650a7354, 0x766a0abb, 0x81c2c92e, 0x92722c85,
  0xa2bfe8a1, 0xa81a664b, 0xc24b8b70, 0xc76c51a3, 0xd192e819, 0xd6990624, 0xf40e3585, 0x106aa070,
  0x19a4c116, 0x1e376c08, 0x2748774c, 0x34b0bcb5, 0x391c0cb3, 0x4ed8aa4a, 0x5b9cca4f, 0x682e6ff3,
  0x748f82ee, 0x78a5636f, 0x84c87814, 0x8cc70208, 0x90befffa, 0xa4506ceb, 0xbef9a3f7, 0xc67178f2]
def hList : List (BitVec 32) := [0x6a09e667, 0xbb67ae85, 0x3c6ef372, 0xa54ff53a, 0x510e527f, 0x9b05688c, 0x1f83d9ab, 0x5be0cd19]
def kF (i : Nat) : BitVec 32 := kList.getD i 0
def hF (i : Nat) : BitVec 32 := hList.getD i 0
def blockL (p : List UInt8) (i : Nat) : List UInt8 := (p.drop (64 * i)).take 64
def hashN (p : List UInt8) : Nat → Nat → BitVec 32
  | 0 => hF
  | n + 1 => compressF kF (wordL (blockL p n)) (hashN p n)
/-- the hash of bytes that are filled up -/
def sumL (l : List UInt8) : List UInt8 := hashBytes (hashN (padL l) ((padL l).length / 64))
theorem sumL_len (l : List UInt8) : (sumL l).length = 32 := tab_len _ _
theorem extract_list (s : ByteArray) (i j : Nat) : (s.extract i j).data.toList = (s.data.toList.drop i).take (j - i) := by
  rw [ByteArray.data_extract, Array.toList_extract, List.extract_eq_drop_take', List.drop_take]
end Go.Proofs.YtfmidmhbnpincaaDoor
/- The leaves of sha: rotations, and the word at a place, each by a contract. -/
namespace Go.Proofs.YtfmidmhbnpincaaDoor
open Go.RowKit
set_option maxRecDepth 20000 in
set_option maxHeartbeats 400000 in
theorem rot_any (x : BitVec 32) (n : Nat) (h1 : 1 ≤ n) (h2 : n ≤ 31) (w : World) :
    Calls Tryd.prog 48 #[.int .u32 (wv x), .int .i64 n] w fun e w' => e = .returned (.int .u32 (wv (ror x n))) ∧ w = w' := by
  have hb := u64_neg_and n h1 h2
  go_enter Tryd.func48, Tryd.ntmps48
  go_wp2
  go_ret
  exact ⟨ret_int (by rw [u32_shl, show 32 - (32 - n) = n from by omega, u32_shr, u32_or]; rfl), rfl⟩
/-- the same, the count an Int, for a region that draws -/
theorem rot_quiet (x : BitVec 32) (n : Int) (h1 : 1 ≤ n) (h2 : n ≤ 31) (w : World) :
    Calls Tryd.prog 48 #[.int .u32 (wv x), .int .i64 n] w fun e w' => e = .returned (.int .u32 (wv (ror x n.toNat))) ∧ w' = w := by
  obtain ⟨k, rfl⟩ := Int.eq_ofNat_of_zero_le (show 0 ≤ n by omega)
  exact (rot_any x k (by omega) (by omega) w).mono fun _ _ h => ⟨h.1, h.2.symm⟩
set_option maxRecDepth 20000 in
set_option maxHeartbeats 400000 in
theorem early_any (x : BitVec 32) (w : World) :
    Calls Tryd.prog 46 #[.int .u32 (wv x)] w fun e w' => e = .returned (.int .u32 (wv (ror x 7 ^^^ ror x 18 ^^^ x >>> 3))) ∧ w = w' := by
  go_enter Tryd.func46, Tryd.ntmps46
  go_wp2_with fail
  refine (rot_any x 7 (by omega) (by omega) _).mono ?_
  rintro e w' ⟨rfl, rfl⟩
  go_wp2_with fail
  refine (rot_any x 18 (by omega) (by omega) _).mono ?_
  rintro e w' ⟨rfl, rfl⟩
  go_wp2
  go_ret
  exact ⟨ret_int (by rw [u32_xor]; rw [show (8 : Int) = 2 ^ 3 from rfl, u32_shr, u32_xor]), rfl⟩
set_option maxRecDepth 20000 in
set_option maxHeartbeats 400000 in
theorem late_any (x : BitVec 32) (w : World) :
    Calls Tryd.prog 47 #[.int .u32 (wv x)] w fun e w' => e = .returned (.int .u32 (wv (ror x 17 ^^^ ror x 19 ^^^ x >>> 10))) ∧ w = w' := by
  go_enter Tryd.func47, Tryd.ntmps47
  go_wp2_with fail
  refine (rot_any x 17 (by omega) (by omega) _).mono ?_
  rintro e w' ⟨rfl, rfl⟩
  go_wp2_with fail
  refine (rot_any x 19 (by omega) (by omega) _).mono ?_
  rintro e w' ⟨rfl, rfl⟩
  go_wp2
  go_ret
  exact ⟨ret_int (by rw [u32_xor]; rw [show (1024 : Int) = 2 ^ 10 from rfl, u32_shr, u32_xor]), rfl⟩
set_option maxRecDepth 20000 in
set_option maxHeartbeats 400000 in
theorem word_any (s : ByteArray) (i : Nat) (hs : 4 * i + 4 ≤ s.size) (hm : s.size ≤ 1000000) (w : World) :
    Calls Tryd.prog 44 #[.string s, .int .i64 i] w fun e w' => e = .returned (.int .u32 (wv (wordL s.data.toList i))) ∧ ∃ n, w' = w.drewN n := by
  go_enter Tryd.func44, Tryd.ntmps44
  go_wp2
  have h4 : (s.extract (4 * i) (4 * i + 4)).size = 4 := by rw [ByteArray.size_extract]; omega
  have hb := extract_byte s (4 * i) (4 * i + 4)
  generalize s.extract (4 * i) (4 * i + 4) = t at *
  have h40 : (0:Int) < t.size := by omega
  have h41 : (1:Int) < t.size := by omega
  have h42 : (2:Int) < t.size := by omega
  have h43 : (3:Int) < t.size := by omega
  have e0 := Lib.hid (hb 0 (by omega))
  have e1 := Lib.hid (hb 1 (by omega))
  have e2 := Lib.hid (hb 2 (by omega))
  have e3 := Lib.hid (hb 3 (by omega))
  clear hb
  go_quiet (fail)
  go_wp2
  go_ret
  exact ⟨ret_int (by rw [beWord_eq, e0.out, e1.out, e2.out, e3.out]; rfl), _, rfl⟩
set_option maxRecDepth 20000 in
set_option maxHeartbeats 400000 in
theorem refRot_any (x : BitVec 32) (n : Nat) (h1 : 1 ≤ n) (h2 : n ≤ 31) (w : World) :
    Calls Tryd.prog 39 #[.int .u32 (wv x), .int .i64 n] w fun e w' => e = .returned (.int .u32 (wv (ror x n))) ∧ ∃ n, w' = w.drewN n := by
  go_enter Tryd.func39, Tryd.ntmps39
  go_wp2
  go_quiet (fail)
  go_wp2
  go_ret
  exact ⟨ret_int (by rw [u32_shl, u32_shr, u32_or, BitVec.or_comm]; rfl), _, rfl⟩
end Go.Proofs.YtfmidmhbnpincaaDoor
/- One round of the hash: the closure over eight words and a schedule of sixteen words that goes round. -/
namespace Go.Proofs.YtfmidmhbnpincaaDoor
open Go.RowKit
attribute [local go_sem] u32_add u32_addw u32_add3 u32_add4 u32_xor u32_and u32_or u32_not u32_not'
theorem and15 (i : Nat) (hi : i < 64) : bits BinOp.and IntKind.i64 (i : Int) 15 = ((i % 16 : Nat) : Int) := by
  rw [show (15 : Int) = ((15 : Nat) : Int) from rfl, (bits_nat .i64 8 (by decide) (fun n h1 h2 => IntWalk.i64_in _ (by omega)) i 15 (by omega) (by omega)).1, nat_mask4]
theorem and15s (i k : Nat) (hi : i < 64) (hk : k ≤ i) : bits BinOp.and IntKind.i64 ((i : Int) - (k : Int)) 15 = (((i - k) % 16 : Nat) : Int) := by
  rw [show (i : Int) - (k : Int) = ((i - k : Nat) : Int) by omega]; exact and15 (i - k) (by omega)
set_option maxRecDepth 20000 in
set_option maxHeartbeats 1000000 in
theorem round_lo (pw ph pe pf pg pa pb pc pd : Nat) (i : Nat) (hi : i < 16) (fw : Nat → BitVec 32) (kc a b c d e f g h : BitVec 32) (w : World)
    (hK : w.cell? ⟨1, i, none⟩ = some (.int .u32 (wv kc))) (_hgl : 1 < pw) (hw : Blk w pw 80 (uarr 16 fw))
    (hA : Blk w pa 22 #[.int .u32 (wv a)]) (hB : Blk w pb 22 #[.int .u32 (wv b)]) (hC : Blk w pc 22 #[.int .u32 (wv c)]) (hD : Blk w pd 22 #[.int .u32 (wv d)]) (hE : Blk w pe 22 #[.int .u32 (wv e)]) (hF : Blk w pf 22 #[.int .u32 (wv f)]) (hG : Blk w pg 22 #[.int .u32 (wv g)]) (hH : Blk w ph 22 #[.int .u32 (wv h)])
    (hp : [pa, pb, pc, pd, pe, pf, pg, ph].Nodup) :
    Calls Tryd.prog 45 #[.int .i64 i, .pointer (some ⟨pw, 0, none⟩), .pointer (some ⟨ph, 0, none⟩), .pointer (some ⟨pe, 0, none⟩), .pointer (some ⟨pf, 0, none⟩), .pointer (some ⟨pg, 0, none⟩), .pointer (some ⟨pa, 0, none⟩), .pointer (some ⟨pb, 0, none⟩), .pointer (some ⟨pc, 0, none⟩), .pointer (some ⟨pd, 0, none⟩)] w
      fun ee w' => ee = .returned (.tuple #[]) ∧ Only [pw, pa, pb, pc, pd, pe, pf, pg, ph] w w' ∧ Blk w' pw 80 (uarr 16 (ring fw i)) ∧
        Blk w' pa 22 #[.int .u32 (wv (T1 e f g h kc (ring fw i (i % 16)) + T2 a b c))] ∧ Blk w' pb 22 #[.int .u32 (wv a)] ∧ Blk w' pc 22 #[.int .u32 (wv b)] ∧ Blk w' pd 22 #[.int .u32 (wv c)] ∧
        Blk w' pe 22 #[.int .u32 (wv (d + T1 e f g h kc (ring fw i (i % 16))))] ∧ Blk w' pf 22 #[.int .u32 (wv e)] ∧ Blk w' pg 22 #[.int .u32 (wv f)] ∧ Blk w' ph 22 #[.int .u32 (wv g)] := by
  have hr : ring fw i = fw := by unfold ring; rw [if_neg (by omega)]
  have hm : bits BinOp.and IntKind.i64 (i : Int) 15 = i := by rw [and15 i (by omega), Nat.mod_eq_of_lt hi]
  have hx : w.cell? ⟨pw, i, none⟩ = _ := (hw.cell _).trans (uarr_get 16 fw _ hi)
  rw [hr, Nat.mod_eq_of_lt hi]
  clear hr
  have neab := Lib.hid (show ¬ pb = pa by intro e; simp [e] at hp)
  have neac := Lib.hid (show ¬ pc = pa by intro e; simp [e] at hp)
  have nead := Lib.hid (show ¬ pd = pa by intro e; simp [e] at hp)
  have neae := Lib.hid (show ¬ pe = pa by intro e; simp [e] at hp)
  have neaf := Lib.hid (show ¬ pf = pa by intro e; simp [e] at hp)
  have neag := Lib.hid (show ¬ pg = pa by intro e; simp [e] at hp)
  have neah := Lib.hid (show ¬ ph = pa by intro e; simp [e] at hp)
  have nebc := Lib.hid (show ¬ pc = pb by intro e; simp [e] at hp)
  have nebd := Lib.hid (show ¬ pd = pb by intro e; simp [e] at hp)
  have nebe := Lib.hid (show ¬ pe = pb by intro e; simp [e] at hp)
  have nebf := Lib.hid (show ¬ pf = pb by intro e; simp [e] at hp)
  have nebg := Lib.hid (show ¬ pg = pb by intro e; simp [e] at hp)
  have nebh := Lib.hid (show ¬ ph = pb by intro e; simp [e] at hp)
  have necd := Lib.hid (show ¬ pd = pc by intro e; simp [e] at hp)
  have nece := Lib.hid (show ¬ pe = pc by intro e; simp [e] at hp)
  have necf := Lib.hid (show ¬ pf = pc by intro e; simp [e] at hp)
  have necg := Lib.hid (show ¬ pg = pc by intro e; simp [e] at hp)
  have nech := Lib.hid (show ¬ ph = pc by intro e; simp [e] at hp)
  have nede := Lib.hid (show ¬ pe = pd by intro e; simp [e] at hp)
  have nedf := Lib.hid (show ¬ pf = pd by intro e; simp [e] at hp)
  have nedg := Lib.hid (show ¬ pg = pd by intro e; simp [e] at hp)
  have nedh := Lib.hid (show ¬ ph = pd by intro e; simp [e] at hp)
  have neef := Lib.hid (show ¬ pf = pe by intro e; simp [e] at hp)
  have neeg := Lib.hid (show ¬ pg = pe by intro e; simp [e] at hp)
  have neeh := Lib.hid (show ¬ ph = pe by intro e; simp [e] at hp)
  have nefg := Lib.hid (show ¬ pg = pf by intro e; simp [e] at hp)
  have nefh := Lib.hid (show ¬ ph = pf by intro e; simp [e] at hp)
  have negh := Lib.hid (show ¬ ph = pg by intro e; simp [e] at hp)
  have nwa := Lib.hid (hw.ne_ hA (by decide))
  have nwb := Lib.hid (hw.ne_ hB (by decide))
  have nwc := Lib.hid (hw.ne_ hC (by decide))
  have nwd := Lib.hid (hw.ne_ hD (by decide))
  have nwe := Lib.hid (hw.ne_ hE (by decide))
  have nwf := Lib.hid (hw.ne_ hF (by decide))
  have nwg := Lib.hid (hw.ne_ hG (by decide))
  have nwh := Lib.hid (hw.ne_ hH (by decide))
  clear hp
  have HA := Lib.hid hA
  have HB := Lib.hid hB
  have HC := Lib.hid hC
  have HD := Lib.hid hD
  have HE := Lib.hid hE
  have HF := Lib.hid hF
  have HG := Lib.hid hG
  have HH := Lib.hid hH
  have HW := Lib.hid hw
  clear hw hA hB hC hD hE hF hG hH
  have cA : w.cell? ⟨pa, 0, none⟩ = some (.int .u32 (wv a)) := HA.out.cell 0
  have cB : w.cell? ⟨pb, 0, none⟩ = some (.int .u32 (wv b)) := HB.out.cell 0
  have cC : w.cell? ⟨pc, 0, none⟩ = some (.int .u32 (wv c)) := HC.out.cell 0
  have cD : w.cell? ⟨pd, 0, none⟩ = some (.int .u32 (wv d)) := HD.out.cell 0
  have cE : w.cell? ⟨pe, 0, none⟩ = some (.int .u32 (wv e)) := HE.out.cell 0
  have cF : w.cell? ⟨pf, 0, none⟩ = some (.int .u32 (wv f)) := HF.out.cell 0
  have cG : w.cell? ⟨pg, 0, none⟩ = some (.int .u32 (wv g)) := HG.out.cell 0
  have cH : w.cell? ⟨ph, 0, none⟩ = some (.int .u32 (wv h)) := HH.out.cell 0
  have O0 := Lib.hid (Only.refl [pw] w)
  have hi1 := Lib.hid (show (Tryd.prog.info? 22).map (·.size) = some 1 by kernel_rfl)
  go_enter Tryd.func45, Tryd.ntmps45
  go_wp2_with fail
  go_quiet ((go_at_call 48; exact Calls.quiet_of_same (rot_quiet _ _ (by omega) (by omega) _)))
  simp only [show IntKind.u32.signed = false from rfl, if_false, Bool.false_eq_true, u32_not, u32_and, u32_xor, u32_add3, u32_add, T1_eq]
  generalize hW : World.drewN _ _ = W0
  replace cA : W0.cell? ⟨pa, 0, none⟩ = some (.int .u32 (wv a)) := by rw [← hW]; exact cA
  replace cB : W0.cell? ⟨pb, 0, none⟩ = some (.int .u32 (wv b)) := by rw [← hW]; exact cB
  replace cC : W0.cell? ⟨pc, 0, none⟩ = some (.int .u32 (wv c)) := by rw [← hW]; exact cC
  replace cD : W0.cell? ⟨pd, 0, none⟩ = some (.int .u32 (wv d)) := by rw [← hW]; exact cD
  replace cE : W0.cell? ⟨pe, 0, none⟩ = some (.int .u32 (wv e)) := by rw [← hW]; exact cE
  replace cF : W0.cell? ⟨pf, 0, none⟩ = some (.int .u32 (wv f)) := by rw [← hW]; exact cF
  replace cG : W0.cell? ⟨pg, 0, none⟩ = some (.int .u32 (wv g)) := by rw [← hW]; exact cG
  replace cH : W0.cell? ⟨ph, 0, none⟩ = some (.int .u32 (wv h)) := by rw [← hW]; exact cH
  replace HA : Hid (Blk W0 pa 22 #[.int .u32 (wv a)]) := by rw [← hW]; exact HA.out
  replace HB : Hid (Blk W0 pb 22 #[.int .u32 (wv b)]) := by rw [← hW]; exact HB.out
  replace HC : Hid (Blk W0 pc 22 #[.int .u32 (wv c)]) := by rw [← hW]; exact HC.out
  replace HD : Hid (Blk W0 pd 22 #[.int .u32 (wv d)]) := by rw [← hW]; exact HD.out
  replace HE : Hid (Blk W0 pe 22 #[.int .u32 (wv e)]) := by rw [← hW]; exact HE.out
  replace HF : Hid (Blk W0 pf 22 #[.int .u32 (wv f)]) := by rw [← hW]; exact HF.out
  replace HG : Hid (Blk W0 pg 22 #[.int .u32 (wv g)]) := by rw [← hW]; exact HG.out
  replace HH : Hid (Blk W0 ph 22 #[.int .u32 (wv h)]) := by rw [← hW]; exact HH.out
  replace HW : Hid (Blk W0 pw 80 (uarr 16 fw)) := by rw [← hW]; exact HW.out
  replace O0 := Lib.hid (show Only [pw] w W0 by rw [← hW]; exact O0.out.drewN _)
  clear hW hK hx
  go_wp2_with fail
  go_quiet ((go_at_call 48; exact Calls.quiet_of_same (rot_quiet _ _ (by omega) (by omega) _)))
  simp only [T2_eq]
  generalize hW : W0.drewN _ = W
  replace cA : W.cell? ⟨pa, 0, none⟩ = some (.int .u32 (wv a)) := by rw [← hW]; exact cA
  replace cB : W.cell? ⟨pb, 0, none⟩ = some (.int .u32 (wv b)) := by rw [← hW]; exact cB
  replace cC : W.cell? ⟨pc, 0, none⟩ = some (.int .u32 (wv c)) := by rw [← hW]; exact cC
  replace cD : W.cell? ⟨pd, 0, none⟩ = some (.int .u32 (wv d)) := by rw [← hW]; exact cD
  replace cE : W.cell? ⟨pe, 0, none⟩ = some (.int .u32 (wv e)) := by rw [← hW]; exact cE
  replace cF : W.cell? ⟨pf, 0, none⟩ = some (.int .u32 (wv f)) := by rw [← hW]; exact cF
  replace cG : W.cell? ⟨pg, 0, none⟩ = some (.int .u32 (wv g)) := by rw [← hW]; exact cG
  replace cH : W.cell? ⟨ph, 0, none⟩ = some (.int .u32 (wv h)) := by rw [← hW]; exact cH
  replace HA : Hid (Blk W pa 22 #[.int .u32 (wv a)]) := by rw [← hW]; exact HA.out
  replace HB : Hid (Blk W pb 22 #[.int .u32 (wv b)]) := by rw [← hW]; exact HB.out
  replace HC : Hid (Blk W pc 22 #[.int .u32 (wv c)]) := by rw [← hW]; exact HC.out
  replace HD : Hid (Blk W pd 22 #[.int .u32 (wv d)]) := by rw [← hW]; exact HD.out
  replace HE : Hid (Blk W pe 22 #[.int .u32 (wv e)]) := by rw [← hW]; exact HE.out
  replace HF : Hid (Blk W pf 22 #[.int .u32 (wv f)]) := by rw [← hW]; exact HF.out
  replace HG : Hid (Blk W pg 22 #[.int .u32 (wv g)]) := by rw [← hW]; exact HG.out
  replace HH : Hid (Blk W ph 22 #[.int .u32 (wv h)]) := by rw [← hW]; exact HH.out
  replace HW : Hid (Blk W pw 80 (uarr 16 fw)) := by rw [← hW]; exact HW.out
  replace O0 := Lib.hid (show Only [pw] w W by rw [← hW]; exact O0.out.drewN _)
  clear hW
  go_wp2_with (first
    | ((with_reducible refine at_store 6 90 ?_); refine wpList_store_blk rfl 22 (.tmp 6) (.tmp 90) rfl rfl pa (.int .u32 (wv (T1 e f g h kc (fw i) + T2 a b c))) rfl rfl rfl 22 _ HA.out hi1.out ?_; intro w1 o1 b1; clear cA cB cC cD cE cF cG cH)
    | ((with_reducible refine at_store 7 91 ?_); refine wpList_store_blk rfl 22 (.tmp 7) (.tmp 91) rfl rfl pb (.int .u32 (wv a)) rfl rfl rfl 22 _ (o1.blk HB.out (by simpa using neab.out)) hi1.out ?_; intro w2 o2 b2)
    | ((with_reducible refine at_store 8 92 ?_); refine wpList_store_blk rfl 22 (.tmp 8) (.tmp 92) rfl rfl pc (.int .u32 (wv b)) rfl rfl rfl 22 _ (o2.blk (o1.blk HC.out (by simpa using neac.out)) (by simpa using nebc.out)) hi1.out ?_; intro w3 o3 b3)
    | ((with_reducible refine at_store 9 93 ?_); refine wpList_store_blk rfl 22 (.tmp 9) (.tmp 93) rfl rfl pd (.int .u32 (wv c)) rfl rfl rfl 22 _ (o3.blk (o2.blk (o1.blk HD.out (by simpa using nead.out)) (by simpa using nebd.out)) (by simpa using necd.out)) hi1.out ?_; intro w4 o4 b4)
    | ((with_reducible refine at_store 3 96 ?_); refine wpList_store_blk rfl 22 (.tmp 3) (.tmp 96) rfl rfl pe (.int .u32 (wv (d + T1 e f g h kc (fw i)))) rfl rfl rfl 22 _ (o4.blk (o3.blk (o2.blk (o1.blk HE.out (by simpa using neae.out)) (by simpa using nebe.out)) (by simpa using nece.out)) (by simpa using nede.out)) hi1.out ?_; intro w5 o5 b5)
    | ((with_reducible refine at_store 4 97 ?_); refine wpList_store_blk rfl 22 (.tmp 4) (.tmp 97) rfl rfl pf (.int .u32 (wv e)) rfl rfl rfl 22 _ (o5.blk (o4.blk (o3.blk (o2.blk (o1.blk HF.out (by simpa using neaf.out)) (by simpa using nebf.out)) (by simpa using necf.out)) (by simpa using nedf.out)) (by simpa using neef.out)) hi1.out ?_; intro w6 o6 b6)
    | ((with_reducible refine at_store 5 98 ?_); refine wpList_store_blk rfl 22 (.tmp 5) (.tmp 98) rfl rfl pg (.int .u32 (wv f)) rfl rfl rfl 22 _ (o6.blk (o5.blk (o4.blk (o3.blk (o2.blk (o1.blk HG.out (by simpa using neag.out)) (by simpa using nebg.out)) (by simpa using necg.out)) (by simpa using nedg.out)) (by simpa using neeg.out)) (by simpa using nefg.out)) hi1.out ?_; intro w7 o7 b7)
    | ((with_reducible refine at_store 2 99 ?_); refine wpList_store_blk rfl 22 (.tmp 2) (.tmp 99) rfl rfl ph (.int .u32 (wv g)) rfl rfl rfl 22 _ (o7.blk (o6.blk (o5.blk (o4.blk (o3.blk (o2.blk (o1.blk HH.out (by simpa using neah.out)) (by simpa using nebh.out)) (by simpa using nech.out)) (by simpa using nedh.out)) (by simpa using neeh.out)) (by simpa using nefh.out)) (by simpa using negh.out)) hi1.out ?_; intro w8 o8 b8)
  )
  go_end0
  have OO : Only [pw, pa, pb, pc, pd, pe, pf, pg, ph] w w8 := (((((((((O0.out.mono (by simp)).trans (o1.mono (by simp))).trans (o2.mono (by simp))).trans (o3.mono (by simp))).trans (o4.mono (by simp))).trans (o5.mono (by simp))).trans (o6.mono (by simp))).trans (o7.mono (by simp))).trans (o8.mono (by simp)))
  have BW : Blk w8 pw 80 (uarr 16 fw) := (o8.blk (o7.blk (o6.blk (o5.blk (o4.blk (o3.blk (o2.blk (o1.blk HW.out (by simpa using nwa.out)) (by simpa using nwb.out)) (by simpa using nwc.out)) (by simpa using nwd.out)) (by simpa using nwe.out)) (by simpa using nwf.out)) (by simpa using nwg.out)) (by simpa using nwh.out))
  exact ⟨rfl, OO, BW, (o8.blk (o7.blk (o6.blk (o5.blk (o4.blk (o3.blk (o2.blk b1 (by simpa using fun e => neab.out e.symm)) (by simpa using fun e => neac.out e.symm)) (by simpa using fun e => nead.out e.symm)) (by simpa using fun e => neae.out e.symm)) (by simpa using fun e => neaf.out e.symm)) (by simpa using fun e => neag.out e.symm)) (by simpa using fun e => neah.out e.symm)), (o8.blk (o7.blk (o6.blk (o5.blk (o4.blk (o3.blk b2 (by simpa using fun e => nebc.out e.symm)) (by simpa using fun e => nebd.out e.symm)) (by simpa using fun e => nebe.out e.symm)) (by simpa using fun e => nebf.out e.symm)) (by simpa using fun e => nebg.out e.symm)) (by simpa using fun e => nebh.out e.symm)), (o8.blk (o7.blk (o6.blk (o5.blk (o4.blk b3 (by simpa using fun e => necd.out e.symm)) (by simpa using fun e => nece.out e.symm)) (by simpa using fun e => necf.out e.symm)) (by simpa using fun e => necg.out e.symm)) (by simpa using fun e => nech.out e.symm)), (o8.blk (o7.blk (o6.blk (o5.blk b4 (by simpa using fun e => nede.out e.symm)) (by simpa using fun e => nedf.out e.symm)) (by simpa using fun e => nedg.out e.symm)) (by simpa using fun e => nedh.out e.symm)), (o8.blk (o7.blk (o6.blk b5 (by simpa using fun e => neef.out e.symm)) (by simpa using fun e => neeg.out e.symm)) (by simpa using fun e => neeh.out e.symm)), (o8.blk (o7.blk b6 (by simpa using fun e => nefg.out e.symm)) (by simpa using fun e => nefh.out e.symm)), (o8.blk b7 (by simpa using fun e => negh.out e.symm)), b8⟩
set_option maxRecDepth 20000 in
set_option maxHeartbeats 1000000 in
theorem round_hi (pw ph pe pf pg pa pb pc pd : Nat) (i : Nat) (h16 : 16 ≤ i) (hi : i < 64) (fw : Nat → BitVec 32) (kc a b c d e f g h : BitVec 32) (w : World)
    (hK : w.cell? ⟨1, i, none⟩ = some (.int .u32 (wv kc))) (hgl : 1 < pw) (hw : Blk w pw 80 (uarr 16 fw))
    (hA : Blk w pa 22 #[.int .u32 (wv a)]) (hB : Blk w pb 22 #[.int .u32 (wv b)]) (hC : Blk w pc 22 #[.int .u32 (wv c)]) (hD : Blk w pd 22 #[.int .u32 (wv d)]) (hE : Blk w pe 22 #[.int .u32 (wv e)]) (hF : Blk w pf 22 #[.int .u32 (wv f)]) (hG : Blk w pg 22 #[.int .u32 (wv g)]) (hH : Blk w ph 22 #[.int .u32 (wv h)])
    (hp : [pa, pb, pc, pd, pe, pf, pg, ph].Nodup) :
    Calls Tryd.prog 45 #[.int .i64 i, .pointer (some ⟨pw, 0, none⟩), .pointer (some ⟨ph, 0, none⟩), .pointer (some ⟨pe, 0, none⟩), .pointer (some ⟨pf, 0, none⟩), .pointer (some ⟨pg, 0, none⟩), .pointer (some ⟨pa, 0, none⟩), .pointer (some ⟨pb, 0, none⟩), .pointer (some ⟨pc, 0, none⟩), .pointer (some ⟨pd, 0, none⟩)] w
      fun ee w' => ee = .returned (.tuple #[]) ∧ Only [pw, pa, pb, pc, pd, pe, pf, pg, ph] w w' ∧ Blk w' pw 80 (uarr 16 (ring fw i)) ∧
        Blk w' pa 22 #[.int .u32 (wv (T1 e f g h kc (ring fw i (i % 16)) + T2 a b c))] ∧ Blk w' pb 22 #[.int .u32 (wv a)] ∧ Blk w' pc 22 #[.int .u32 (wv b)] ∧ Blk w' pd 22 #[.int .u32 (wv c)] ∧
        Blk w' pe 22 #[.int .u32 (wv (d + T1 e f g h kc (ring fw i (i % 16))))] ∧ Blk w' pf 22 #[.int .u32 (wv e)] ∧ Blk w' pg 22 #[.int .u32 (wv f)] ∧ Blk w' ph 22 #[.int .u32 (wv g)] := by
  have hm15 : bits BinOp.and IntKind.i64 (IntKind.i64.wrap ((i : Int) - 15)) 15 = (((i - 15) % 16 : Nat) : Int) := by rw [IntWalk.i64_in _ (by omega)]; exact and15s i 15 hi (by omega)
  have hm7 : bits BinOp.and IntKind.i64 (IntKind.i64.wrap ((i : Int) - 7)) 15 = (((i - 7) % 16 : Nat) : Int) := by rw [IntWalk.i64_in _ (by omega)]; exact and15s i 7 hi (by omega)
  have hm2 : bits BinOp.and IntKind.i64 (IntKind.i64.wrap ((i : Int) - 2)) 15 = (((i - 2) % 16 : Nat) : Int) := by rw [IntWalk.i64_in _ (by omega)]; exact and15s i 2 hi (by omega)
  have z15 : (i - 15) % 16 < 16 := Nat.mod_lt _ (by omega)
  have c15 : w.cell? ⟨pw, (i - 15) % 16, none⟩ = _ := (hw.cell _).trans (uarr_get 16 fw _ z15)
  have z7 : (i - 7) % 16 < 16 := Nat.mod_lt _ (by omega)
  have c7 : w.cell? ⟨pw, (i - 7) % 16, none⟩ = _ := (hw.cell _).trans (uarr_get 16 fw _ z7)
  have z2 : (i - 2) % 16 < 16 := Nat.mod_lt _ (by omega)
  have c2 : w.cell? ⟨pw, (i - 2) % 16, none⟩ = _ := (hw.cell _).trans (uarr_get 16 fw _ z2)
  have hm := and15 i hi
  have z0 : i % 16 < 16 := Nat.mod_lt _ (by omega)
  have c0 : w.cell? ⟨pw, i % 16, none⟩ = _ := (hw.cell _).trans (uarr_get 16 fw _ z0)
  have f0 : w.frozen? ⟨pw, i % 16, none⟩ = false := hw.frozen _
  have hr : ring fw i = upd fw (i % 16) (sched fw i) := by unfold ring; rw [if_pos h16]
  obtain ⟨sc, hs⟩ : ∃ sc, sched fw i = sc := ⟨_, rfl⟩
  rw [hr, hs]
  unfold sched at hs
  have HS := Lib.hid hs
  rw [show upd fw (i % 16) sc (i % 16) = sc by simp [upd]]
  clear hr hs
  generalize i % 16 = j0 at *
  generalize (i - 15) % 16 = j15 at *
  generalize (i - 7) % 16 = j7 at *
  generalize (i - 2) % 16 = j2 at *
  have y0 : (j0 : Int) < 16 := by omega
  have y15 : (j15 : Int) < 16 := by omega
  have y7 : (j7 : Int) < 16 := by omega
  have y2 : (j2 : Int) < 16 := by omega
  have neab := Lib.hid (show ¬ pb = pa by intro e; simp [e] at hp)
  have neac := Lib.hid (show ¬ pc = pa by intro e; simp [e] at hp)
  have nead := Lib.hid (show ¬ pd = pa by intro e; simp [e] at hp)
  have neae := Lib.hid (show ¬ pe = pa by intro e; simp [e] at hp)
  have neaf := Lib.hid (show ¬ pf = pa by intro e; simp [e] at hp)
  have neag := Lib.hid (show ¬ pg = pa by intro e; simp [e] at hp)
  have neah := Lib.hid (show ¬ ph = pa by intro e; simp [e] at hp)
  have nebc := Lib.hid (show ¬ pc = pb by intro e; simp [e] at hp)
  have nebd := Lib.hid (show ¬ pd = pb by intro e; simp [e] at hp)
  have nebe := Lib.hid (show ¬ pe = pb by intro e; simp [e] at hp)
  have nebf := Lib.hid (show ¬ pf = pb by intro e; simp [e] at hp)
  have nebg := Lib.hid (show ¬ pg = pb by intro e; simp [e] at hp)
  have nebh := Lib.hid (show ¬ ph = pb by intro e; simp [e] at hp)
  have necd := Lib.hid (show ¬ pd = pc by intro e; simp [e] at hp)
  have nece := Lib.hid (show ¬ pe = pc by intro e; simp [e] at hp)
  have necf := Lib.hid (show ¬ pf = pc by intro e; simp [e] at hp)
  have necg := Lib.hid (show ¬ pg = pc by intro e; simp [e] at hp)
  have nech := Lib.hid (show ¬ ph = pc by intro e; simp [e] at hp)
  have nede := Lib.hid (show ¬ pe = pd by intro e; simp [e] at hp)
  have nedf := Lib.hid (show ¬ pf = pd by intro e; simp [e] at hp)
  have nedg := Lib.hid (show ¬ pg = pd by intro e; simp [e] at hp)
  have nedh := Lib.hid (show ¬ ph = pd by intro e; simp [e] at hp)
  have neef := Lib.hid (show ¬ pf = pe by intro e; simp [e] at hp)
  have neeg := Lib.hid (show ¬ pg = pe by intro e; simp [e] at hp)
  have neeh := Lib.hid (show ¬ ph = pe by intro e; simp [e] at hp)
  have nefg := Lib.hid (show ¬ pg = pf by intro e; simp [e] at hp)
  have nefh := Lib.hid (show ¬ ph = pf by intro e; simp [e] at hp)
  have negh := Lib.hid (show ¬ ph = pg by intro e; simp [e] at hp)
  have nwa := Lib.hid (hw.ne_ hA (by decide))
  have nwb := Lib.hid (hw.ne_ hB (by decide))
  have nwc := Lib.hid (hw.ne_ hC (by decide))
  have nwd := Lib.hid (hw.ne_ hD (by decide))
  have nwe := Lib.hid (hw.ne_ hE (by decide))
  have nwf := Lib.hid (hw.ne_ hF (by decide))
  have nwg := Lib.hid (hw.ne_ hG (by decide))
  have nwh := Lib.hid (hw.ne_ hH (by decide))
  clear hp
  have HA := Lib.hid hA
  have HB := Lib.hid hB
  have HC := Lib.hid hC
  have HD := Lib.hid hD
  have HE := Lib.hid hE
  have HF := Lib.hid hF
  have HG := Lib.hid hG
  have HH := Lib.hid hH
  have HW := Lib.hid hw
  clear hw hA hB hC hD hE hF hG hH
  have hi1 := Lib.hid (show (Tryd.prog.info? 22).map (·.size) = some 1 by kernel_rfl)
  go_enter Tryd.func45, Tryd.ntmps45
  go_wp2_with fail
  refine wp_region_still_tail 25 (by kernel_rfl) (by kernel_rfl) ?_
  simp only [List.take_succ_cons, List.take_zero, List.drop_succ_cons, List.drop_zero]
  repeat still_step
  still_call ((early_any _ _).mono fun _ _ h => ⟨h.1, h.2.symm⟩)
  repeat still_step
  still_call ((late_any _ _).mono fun _ _ h => ⟨h.1, h.2.symm⟩)
  repeat still_step
  refine wpStill_nil ?_
  clear c15 c7 c2
  change wpList _ _ _ _ _ w.drew
  rw [HS.out]
  go_wp2_with ((with_reducible refine at_store 39 38 ?_); refine wpList_store_cell rfl 22 (.tmp 39) (.tmp 38) rfl rfl pw j0 (.int .u32 (wv sc)) rfl rfl rfl 80 _ (HW.out.drew) (by rw [uarr_size]; exact z0) hi1.out ?_; intro W1 o1 b1)
  rw [uarr_set] at b1
  clear f0 c0
  have hx : W1.cell? ⟨pw, j0, none⟩ = some (.int .u32 (wv sc)) := (b1.cell _).trans ((uarr_get 16 _ _ z0).trans (by simp [upd]))
  replace hK : W1.cell? ⟨1, i, none⟩ = some (.int .u32 (wv kc)) := (o1.cell (by simp; omega)).trans hK
  have O0 := Lib.hid ((Only.refl [pw] w).drew.trans o1)
  replace HW := Lib.hid b1
  replace HA := Lib.hid (o1.blk HA.out.drew (by simpa using fun e => nwa.out e.symm))
  replace HB := Lib.hid (o1.blk HB.out.drew (by simpa using fun e => nwb.out e.symm))
  replace HC := Lib.hid (o1.blk HC.out.drew (by simpa using fun e => nwc.out e.symm))
  replace HD := Lib.hid (o1.blk HD.out.drew (by simpa using fun e => nwd.out e.symm))
  replace HE := Lib.hid (o1.blk HE.out.drew (by simpa using fun e => nwe.out e.symm))
  replace HF := Lib.hid (o1.blk HF.out.drew (by simpa using fun e => nwf.out e.symm))
  replace HG := Lib.hid (o1.blk HG.out.drew (by simpa using fun e => nwg.out e.symm))
  replace HH := Lib.hid (o1.blk HH.out.drew (by simpa using fun e => nwh.out e.symm))
  clear o1 b1 z0
  have cA : W1.cell? ⟨pa, 0, none⟩ = some (.int .u32 (wv a)) := HA.out.cell 0
  have cB : W1.cell? ⟨pb, 0, none⟩ = some (.int .u32 (wv b)) := HB.out.cell 0
  have cC : W1.cell? ⟨pc, 0, none⟩ = some (.int .u32 (wv c)) := HC.out.cell 0
  have cD : W1.cell? ⟨pd, 0, none⟩ = some (.int .u32 (wv d)) := HD.out.cell 0
  have cE : W1.cell? ⟨pe, 0, none⟩ = some (.int .u32 (wv e)) := HE.out.cell 0
  have cF : W1.cell? ⟨pf, 0, none⟩ = some (.int .u32 (wv f)) := HF.out.cell 0
  have cG : W1.cell? ⟨pg, 0, none⟩ = some (.int .u32 (wv g)) := HG.out.cell 0
  have cH : W1.cell? ⟨ph, 0, none⟩ = some (.int .u32 (wv h)) := HH.out.cell 0
  go_wp2_with fail
  go_quiet ((go_at_call 48; exact Calls.quiet_of_same (rot_quiet _ _ (by omega) (by omega) _)))
  simp only [show IntKind.u32.signed = false from rfl, if_false, Bool.false_eq_true, u32_not, u32_and, u32_xor, u32_add3, u32_add, T1_eq]
  generalize hW : World.drewN _ _ = W0
  replace cA : W0.cell? ⟨pa, 0, none⟩ = some (.int .u32 (wv a)) := by rw [← hW]; exact cA
  replace cB : W0.cell? ⟨pb, 0, none⟩ = some (.int .u32 (wv b)) := by rw [← hW]; exact cB
  replace cC : W0.cell? ⟨pc, 0, none⟩ = some (.int .u32 (wv c)) := by rw [← hW]; exact cC
  replace cD : W0.cell? ⟨pd, 0, none⟩ = some (.int .u32 (wv d)) := by rw [← hW]; exact cD
  replace cE : W0.cell? ⟨pe, 0, none⟩ = some (.int .u32 (wv e)) := by rw [← hW]; exact cE
  replace cF : W0.cell? ⟨pf, 0, none⟩ = some (.int .u32 (wv f)) := by rw [← hW]; exact cF
  replace cG : W0.cell? ⟨pg, 0, none⟩ = some (.int .u32 (wv g)) := by rw [← hW]; exact cG
  replace cH : W0.cell? ⟨ph, 0, none⟩ = some (.int .u32 (wv h)) := by rw [← hW]; exact cH
  replace HA : Hid (Blk W0 pa 22 #[.int .u32 (wv a)]) := by rw [← hW]; exact HA.out
  replace HB : Hid (Blk W0 pb 22 #[.int .u32 (wv b)]) := by rw [← hW]; exact HB.out
  replace HC : Hid (Blk W0 pc 22 #[.int .u32 (wv c)]) := by rw [← hW]; exact HC.out
  replace HD : Hid (Blk W0 pd 22 #[.int .u32 (wv d)]) := by rw [← hW]; exact HD.out
  replace HE : Hid (Blk W0 pe 22 #[.int .u32 (wv e)]) := by rw [← hW]; exact HE.out
  replace HF : Hid (Blk W0 pf 22 #[.int .u32 (wv f)]) := by rw [← hW]; exact HF.out
  replace HG : Hid (Blk W0 pg 22 #[.int .u32 (wv g)]) := by rw [← hW]; exact HG.out
  replace HH : Hid (Blk W0 ph 22 #[.int .u32 (wv h)]) := by rw [← hW]; exact HH.out
  replace HW : Hid (Blk W0 pw 80 (uarr 16 (upd fw j0 sc))) := by rw [← hW]; exact HW.out
  replace O0 := Lib.hid (show Only [pw] w W0 by rw [← hW]; exact O0.out.drewN _)
  clear hW hK hx
  go_wp2_with fail
  go_quiet ((go_at_call 48; exact Calls.quiet_of_same (rot_quiet _ _ (by omega) (by omega) _)))
  simp only [T2_eq]
  generalize hW : W0.drewN _ = W
  replace cA : W.cell? ⟨pa, 0, none⟩ = some (.int .u32 (wv a)) := by rw [← hW]; exact cA
  replace cB : W.cell? ⟨pb, 0, none⟩ = some (.int .u32 (wv b)) := by rw [← hW]; exact cB
  replace cC : W.cell? ⟨pc, 0, none⟩ = some (.int .u32 (wv c)) := by rw [← hW]; exact cC
  replace cD : W.cell? ⟨pd, 0, none⟩ = some (.int .u32 (wv d)) := by rw [← hW]; exact cD
  replace cE : W.cell? ⟨pe, 0, none⟩ = some (.int .u32 (wv e)) := by rw [← hW]; exact cE
  replace cF : W.cell? ⟨pf, 0, none⟩ = some (.int .u32 (wv f)) := by rw [← hW]; exact cF
  replace cG : W.cell? ⟨pg, 0, none⟩ = some (.int .u32 (wv g)) := by rw [← hW]; exact cG
  replace cH : W.cell? ⟨ph, 0, none⟩ = some (.int .u32 (wv h)) := by rw [← hW]; exact cH
  replace HA : Hid (Blk W pa 22 #[.int .u32 (wv a)]) := by rw [← hW]; exact HA.out
  replace HB : Hid (Blk W pb 22 #[.int .u32 (wv b)]) := by rw [← hW]; exact HB.out
  replace HC : Hid (Blk W pc 22 #[.int .u32 (wv c)]) := by rw [← hW]; exact HC.out
  replace HD : Hid (Blk W pd 22 #[.int .u32 (wv d)]) := by rw [← hW]; exact HD.out
  replace HE : Hid (Blk W pe 22 #[.int .u32 (wv e)]) := by rw [← hW]; exact HE.out
  replace HF : Hid (Blk W pf 22 #[.int .u32 (wv f)]) := by rw [← hW]; exact HF.out
  replace HG : Hid (Blk W pg 22 #[.int .u32 (wv g)]) := by rw [← hW]; exact HG.out
  replace HH : Hid (Blk W ph 22 #[.int .u32 (wv h)]) := by rw [← hW]; exact HH.out
  replace HW : Hid (Blk W pw 80 (uarr 16 (upd fw j0 sc))) := by rw [← hW]; exact HW.out
  replace O0 := Lib.hid (show Only [pw] w W by rw [← hW]; exact O0.out.drewN _)
  clear hW
  go_wp2_with (first
    | ((with_reducible refine at_store 6 90 ?_); refine wpList_store_blk rfl 22 (.tmp 6) (.tmp 90) rfl rfl pa (.int .u32 (wv (T1 e f g h kc sc + T2 a b c))) rfl rfl rfl 22 _ HA.out hi1.out ?_; intro w1 o1 b1; clear cA cB cC cD cE cF cG cH)
    | ((with_reducible refine at_store 7 91 ?_); refine wpList_store_blk rfl 22 (.tmp 7) (.tmp 91) rfl rfl pb (.int .u32 (wv a)) rfl rfl rfl 22 _ (o1.blk HB.out (by simpa using neab.out)) hi1.out ?_; intro w2 o2 b2)
    | ((with_reducible refine at_store 8 92 ?_); refine wpList_store_blk rfl 22 (.tmp 8) (.tmp 92) rfl rfl pc (.int .u32 (wv b)) rfl rfl rfl 22 _ (o2.blk (o1.blk HC.out (by simpa using neac.out)) (by simpa using nebc.out)) hi1.out ?_; intro w3 o3 b3)
    | ((with_reducible refine at_store 9 93 ?_); refine wpList_store_blk rfl 22 (.tmp 9) (.tmp 93) rfl rfl pd (.int .u32 (wv c)) rfl rfl rfl 22 _ (o3.blk (o2.blk (o1.blk HD.out (by simpa using nead.out)) (by simpa using nebd.out)) (by simpa using necd.out)) hi1.out ?_; intro w4 o4 b4)
    | ((with_reducible refine at_store 3 96 ?_); refine wpList_store_blk rfl 22 (.tmp 3) (.tmp 96) rfl rfl pe (.int .u32 (wv (d + T1 e f g h kc sc))) rfl rfl rfl 22 _ (o4.blk (o3.blk (o2.blk (o1.blk HE.out (by simpa using neae.out)) (by simpa using nebe.out)) (by simpa using nece.out)) (by simpa using nede.out)) hi1.out ?_; intro w5 o5 b5)
    | ((with_reducible refine at_store 4 97 ?_); refine wpList_store_blk rfl 22 (.tmp 4) (.tmp 97) rfl rfl pf (.int .u32 (wv e)) rfl rfl rfl 22 _ (o5.blk (o4.blk (o3.blk (o2.blk (o1.blk HF.out (by simpa using neaf.out)) (by simpa using nebf.out)) (by simpa using necf.out)) (by simpa using nedf.out)) (by simpa using neef.out)) hi1.out ?_; intro w6 o6 b6)
    | ((with_reducible refine at_store 5 98 ?_); refine wpList_store_blk rfl 22 (.tmp 5) (.tmp 98) rfl rfl pg (.int .u32 (wv f)) rfl rfl rfl 22 _ (o6.blk (o5.blk (o4.blk (o3.blk (o2.blk (o1.blk HG.out (by simpa using neag.out)) (by simpa using nebg.out)) (by simpa using necg.out)) (by simpa using nedg.out)) (by simpa using neeg.out)) (by simpa using nefg.out)) hi1.out ?_; intro w7 o7 b7)
    | ((with_reducible refine at_store 2 99 ?_); refine wpList_store_blk rfl 22 (.tmp 2) (.tmp 99) rfl rfl ph (.int .u32 (wv g)) rfl rfl rfl 22 _ (o7.blk (o6.blk (o5.blk (o4.blk (o3.blk (o2.blk (o1.blk HH.out (by simpa using neah.out)) (by simpa using nebh.out)) (by simpa using nech.out)) (by simpa using nedh.out)) (by simpa using neeh.out)) (by simpa using nefh.out)) (by simpa using negh.out)) hi1.out ?_; intro w8 o8 b8)
  )
  go_end0
  have OO : Only [pw, pa, pb, pc, pd, pe, pf, pg, ph] w w8 := (((((((((O0.out.mono (by simp)).trans (o1.mono (by simp))).trans (o2.mono (by simp))).trans (o3.mono (by simp))).trans (o4.mono (by simp))).trans (o5.mono (by simp))).trans (o6.mono (by simp))).trans (o7.mono (by simp))).trans (o8.mono (by simp)))
  have BW : Blk w8 pw 80 (uarr 16 (upd fw j0 sc)) := (o8.blk (o7.blk (o6.blk (o5.blk (o4.blk (o3.blk (o2.blk (o1.blk HW.out (by simpa using nwa.out)) (by simpa using nwb.out)) (by simpa using nwc.out)) (by simpa using nwd.out)) (by simpa using nwe.out)) (by simpa using nwf.out)) (by simpa using nwg.out)) (by simpa using nwh.out))
  exact ⟨rfl, OO, BW, (o8.blk (o7.blk (o6.blk (o5.blk (o4.blk (o3.blk (o2.blk b1 (by simpa using fun e => neab.out e.symm)) (by simpa using fun e => neac.out e.symm)) (by simpa using fun e => nead.out e.symm)) (by simpa using fun e => neae.out e.symm)) (by simpa using fun e => neaf.out e.symm)) (by simpa using fun e => neag.out e.symm)) (by simpa using fun e => neah.out e.symm)), (o8.blk (o7.blk (o6.blk (o5.blk (o4.blk (o3.blk b2 (by simpa using fun e => nebc.out e.symm)) (by simpa using fun e => nebd.out e.symm)) (by simpa using fun e => nebe.out e.symm)) (by simpa using fun e => nebf.out e.symm)) (by simpa using fun e => nebg.out e.symm)) (by simpa using fun e => nebh.out e.symm)), (o8.blk (o7.blk (o6.blk (o5.blk (o4.blk b3 (by simpa using fun e => necd.out e.symm)) (by simpa using fun e => nece.out e.symm)) (by simpa using fun e => necf.out e.symm)) (by simpa using fun e => necg.out e.symm)) (by simpa using fun e => nech.out e.symm)), (o8.blk (o7.blk (o6.blk (o5.blk b4 (by simpa using fun e => nede.out e.symm)) (by simpa using fun e => nedf.out e.symm)) (by simpa using fun e => nedg.out e.symm)) (by simpa using fun e => nedh.out e.symm)), (o8.blk (o7.blk (o6.blk b5 (by simpa using fun e => neef.out e.symm)) (by simpa using fun e => neeg.out e.symm)) (by simpa using fun e => neeh.out e.symm)), (o8.blk (o7.blk b6 (by simpa using fun e => nefg.out e.symm)) (by simpa using fun e => nefh.out e.symm)), (o8.blk b7 (by simpa using fun e => negh.out e.symm)), b8⟩
end Go.Proofs.YtfmidmhbnpincaaDoor
/- One block put to the hash: sha.compress. -/
namespace Go.Proofs.YtfmidmhbnpincaaDoor
open Go.RowKit
theorem keep_alloc {w : World} {o : Obj} {a : Addr} {v : Value} (h : w.cell? a = some v) : (w.alloc o).cell? a = some v := by
  rw [World.cell?_alloc_lt w o a (World.block_lt_of_cell? w _ h)]; exact h
theorem s_alloc {w : World} {o : Obj} {a b c d : Addr} {x y z u : Value} (h : w.cell? a = some x ∧ w.cell? b = some y ∧ w.cell? c = some z ∧ w.cell? d = some u) :
    (w.alloc o).cell? a = some x ∧ (w.alloc o).cell? b = some y ∧ (w.alloc o).cell? c = some z ∧ (w.alloc o).cell? d = some u := ⟨keep_alloc h.1, keep_alloc h.2.1, keep_alloc h.2.2.1, keep_alloc h.2.2.2⟩
theorem s_drew {w : World} {a b c d : Addr} {x y z u : Value} (h : w.cell? a = some x ∧ w.cell? b = some y ∧ w.cell? c = some z ∧ w.cell? d = some u) :
    w.drew.cell? a = some x ∧ w.drew.cell? b = some y ∧ w.drew.cell? c = some z ∧ w.drew.cell? d = some u := h
set_option maxRecDepth 20000 in
set_option maxHeartbeats 4000000 in
theorem compress_any (K : Nat → BitVec 32) (s : ByteArray) (h : Nat → BitVec 32) (hs : s.size = 64) (w : World)
    (hK : ∀ i, i < 64 → w.cell? ⟨1, i, none⟩ = some (.int .u32 (wv (K i)))) :
    Calls Tryd.prog 35 #[.agg (uarr 8 h), .string s] w fun e w' => e = .returned (.agg (uarr 8 (compressF K (wordL s.data.toList) h))) ∧ Below w.heap.size w w' := by
  have Hs := Lib.hid hs
  have HK := Lib.hid hK
  have hgl : 1 < w.heap.size := World.block_lt_of_cell? w _ (hK 0 (by omega))
  clear hs hK
  go_enter Tryd.func35, Tryd.ntmps35
  go_wp2_with fail
  go_loopw [19] (fun i wr => ∃ k : Nat, k ≤ 16 ∧ i = .int .i64 k ∧ Blk wr (w.heap.size + 2) 80 (uarr 16 (fun j => if j < k then wordL s.data.toList j else 0)) ∧ Blk wr w.heap.size 60 (uarr 8 h) ∧
     Blk wr (w.heap.size + 1) 60 (uarr 8 (fun _ => 0)) ∧ Below w.heap.size w wr ∧ wr.heap.size = w.heap.size + 3)
    (fun i _ => 16 - (intOf i).toNat)
  case atStart =>
    refine ⟨0, by omega, rfl, ?_, ?_, ?_, ?_, by simp⟩
    · exact blk_new _ (uarr 16 (fun j => if j < 0 then wordL s.data.toList j else 0)) (by simp)
    · exact ((Blk.new _ _ _).alloc _).alloc _
    · exact (blk_new _ (uarr 8 (fun _ => 0)) (by simp)).alloc _
    · exact (((Below.refl _ _).alloc (Nat.le_refl _) _).alloc (by simp) _).alloc (by simp; omega) _
  case round =>
    obtain ⟨k, hk, rfl, h1, h2, h3, hb, hz⟩ := hrel
    by_cases hlt : k < 16
    · go_wp2_with fail
      refine (word_any s k (by have := Hs.out; omega) (by have := Hs.out; omega) _).mono ?_
      rintro e w' ⟨rfl, n, rfl⟩
      have hc : wr.cell? ⟨w.heap.size + 1 + 1, k, none⟩ = some (.int .u32 (wv 0)) := by
        rw [show w.heap.size + 1 + 1 = w.heap.size + 2 from rfl, h1.cell, uarr_get _ _ _ hlt]; simp
      have hf : wr.frozen? ⟨w.heap.size + 1 + 1, k, none⟩ = false := h1.frozen k
      go_wp2
      go_roundw
      case rel =>
        refine ⟨k + 1, by omega, by go_num, ?_, ?_, ?_, ?_, ?_⟩
        · have hh := (h1.drewN n).set_ k (.int .u32 (wv (wordL s.data.toList k)))
          rw [uarr_set] at hh
          rw [uarr_congr 16 _ (upd (fun j => if j < k then wordL s.data.toList j else 0) k (wordL s.data.toList k)) (fun i hi => by
            unfold upd; by_cases e : i = k
            · subst e; simp
            · by_cases l : i < k
              · simp [e, l]; omega
              · simp [e, l]; omega)]
          exact hh
        · exact (h2.drewN n).far (by simp; omega) _
        · exact (h3.drewN n).far (by simp) _
        · exact (below_drewN hb n).setCell (by simp; omega) _
        · simpa [World.setCell] using hz
      case measure => simp [intOf]; omega
    · have a0 : ∀ j, j < 8 → wr.cell? ⟨w.heap.size, j, none⟩ = some (.int .u32 (wv (h j))) := fun j hj => by rw [h2.cell, uarr_get _ _ _ hj]
      have c0 := a0 0 (by omega)
      have c1 := a0 1 (by omega)
      have c2 := a0 2 (by omega)
      have c3 := a0 3 (by omega)
      have a1 := Lib.hid a0
      clear a0
      have h1' : Blk wr (w.heap.size + 2) 80 (uarr 16 (wordL s.data.toList)) := by
        rw [uarr_congr 16 (wordL s.data.toList) (fun j => if j < k then wordL s.data.toList j else 0) (fun i hi => by rw [if_pos (by omega)])]; exact h1
      have H1 := Lib.hid h1'
      have H2 := Lib.hid h2
      have H3 := Lib.hid h3
      clear h1 h2 h3 h1'
      go_wp2_with fail
      go_cut [7, 8, 9, 10] (fun p7 p8 p9 p10 wc => ∃ g7 g8 g9 g10 : Nat, p7 = .pointer (some ⟨g7, 0, none⟩) ∧ p8 = .pointer (some ⟨g8, 0, none⟩) ∧ p9 = .pointer (some ⟨g9, 0, none⟩) ∧ p10 = .pointer (some ⟨g10, 0, none⟩) ∧
         (Blk wc g7 22 #[.int .u32 (wv (h 0))] ∧ Blk wc g8 22 #[.int .u32 (wv (h 1))] ∧ Blk wc g9 22 #[.int .u32 (wv (h 2))] ∧ Blk wc g10 22 #[.int .u32 (wv (h 3))]) ∧
         (wr.heap.size ≤ g7 ∧ wr.heap.size ≤ g8 ∧ wr.heap.size ≤ g9 ∧ wr.heap.size ≤ g10) ∧ (g7 ≠ g8 ∧ g7 ≠ g9 ∧ g7 ≠ g10 ∧ g8 ≠ g9 ∧ g8 ≠ g10 ∧ g9 ≠ g10) ∧ Below wr.heap.size wr wc ∧ wc.heap.size = wr.heap.size + 4)
      case first =>
        clear HK hgl hb hlt Hs a1 H1 H2 H3
        have h0 := And.intro c0 (And.intro c1 (And.intro c2 c3))
        go_region_held3 (fun w' => w'.cell? ⟨w.heap.size, 0, none⟩ = some (.int .u32 (wv (h 0))) ∧ w'.cell? ⟨w.heap.size, 1, none⟩ = some (.int .u32 (wv (h 1))) ∧
          w'.cell? ⟨w.heap.size, 2, none⟩ = some (.int .u32 (wv (h 2))) ∧ w'.cell? ⟨w.heap.size, 3, none⟩ = some (.int .u32 (wv (h 3))))
          (first | exact s_drew h0 | exact s_drew (s_alloc h0) | exact s_drew (s_alloc (s_alloc h0)) | exact s_drew (s_alloc (s_alloc (s_alloc h0))) | exact s_drew (s_alloc (s_alloc (s_alloc (s_alloc h0))))) (first | fail)
        all_goals (
          go_wp2_with fail
          go_meet
          refine ⟨_, _, _, _, rfl, rfl, rfl, rfl, ⟨?_, ?_, ?_, ?_⟩, ?_, ?_, ?_, ?_⟩
          rotate_right 1
          · simp
          rotate_right 1
          · exact (((((Below.refl _ _).alloc (Nat.le_refl _) _).alloc (by simp) _).alloc (by simp; omega) _).alloc (by simp; omega) _).drew
          rotate_right 1
          · omega
          rotate_right 1
          · omega
          all_goals first
            | exact (blk_new _ _ (by simp [hz])).drew
            | exact ((blk_new _ _ (by simp [hz])).alloc _).drew
            | exact (((blk_new _ _ (by simp [hz])).alloc _).alloc _).drew
            | exact ((((blk_new _ _ (by simp [hz])).alloc _).alloc _).alloc _).drew)
      case rest =>
        rename World => wc1
        obtain ⟨g7, g8, g9, g10, rfl, rfl, rfl, rfl, B1, hge, hne, hb1, hz1⟩ := hcut
        replace hne := Lib.hid hne
        replace B1 := Lib.hid B1
        have a0 : ∀ j, j < 8 → wc1.cell? ⟨w.heap.size, j, none⟩ = some (.int .u32 (wv (h j))) := fun j hj => by rw [hb1.cell (by simp; omega)]; exact a1.out j hj
        have c4 := a0 4 (by omega)
        have c5 := a0 5 (by omega)
        have c6 := a0 6 (by omega)
        have c7 := a0 7 (by omega)
        clear a0 c0 c1 c2 c3
        go_wp2_with fail
        go_cut [11, 12, 13, 14] (fun p7 p8 p9 p10 wc => ∃ g11 g12 g13 g14 : Nat, p7 = .pointer (some ⟨g11, 0, none⟩) ∧ p8 = .pointer (some ⟨g12, 0, none⟩) ∧ p9 = .pointer (some ⟨g13, 0, none⟩) ∧ p10 = .pointer (some ⟨g14, 0, none⟩) ∧
           (Blk wc g11 22 #[.int .u32 (wv (h 4))] ∧ Blk wc g12 22 #[.int .u32 (wv (h 5))] ∧ Blk wc g13 22 #[.int .u32 (wv (h 6))] ∧ Blk wc g14 22 #[.int .u32 (wv (h 7))]) ∧
           (wc1.heap.size ≤ g11 ∧ wc1.heap.size ≤ g12 ∧ wc1.heap.size ≤ g13 ∧ wc1.heap.size ≤ g14) ∧ (g11 ≠ g12 ∧ g11 ≠ g13 ∧ g11 ≠ g14 ∧ g12 ≠ g13 ∧ g12 ≠ g14 ∧ g13 ≠ g14) ∧ Below wc1.heap.size wc1 wc ∧ wc.heap.size = wc1.heap.size + 4)
        case first =>
          have hsz : wc1.heap.size = w.heap.size + 7 := by omega
          clear HK hgl hb hz hlt Hs a1 H1 H2 H3 hne B1 hge hb1 hz1
          have h0 := And.intro c4 (And.intro c5 (And.intro c6 c7))
          go_region_held3 (fun w' => w'.cell? ⟨w.heap.size, 4, none⟩ = some (.int .u32 (wv (h 4))) ∧ w'.cell? ⟨w.heap.size, 5, none⟩ = some (.int .u32 (wv (h 5))) ∧
            w'.cell? ⟨w.heap.size, 6, none⟩ = some (.int .u32 (wv (h 6))) ∧ w'.cell? ⟨w.heap.size, 7, none⟩ = some (.int .u32 (wv (h 7))))
            (first | exact s_drew h0 | exact s_drew (s_alloc h0) | exact s_drew (s_alloc (s_alloc h0)) | exact s_drew (s_alloc (s_alloc (s_alloc h0))) | exact s_drew (s_alloc (s_alloc (s_alloc (s_alloc h0))))) (first | fail)
          all_goals (
            go_wp2_with fail
            go_meet
            refine ⟨_, _, _, _, rfl, rfl, rfl, rfl, ⟨?_, ?_, ?_, ?_⟩, ?_, ?_, ?_, ?_⟩
            rotate_right 1
            · simp
            rotate_right 1
            · exact (((((Below.refl _ _).alloc (Nat.le_refl _) _).alloc (by simp) _).alloc (by simp; omega) _).alloc (by simp; omega) _).drew
            rotate_right 1
            · omega
            rotate_right 1
            · omega
            all_goals first
              | exact (blk_new _ _ (by simp [hsz])).drew
              | exact ((blk_new _ _ (by simp [hsz])).alloc _).drew
              | exact (((blk_new _ _ (by simp [hsz])).alloc _).alloc _).drew
              | exact ((((blk_new _ _ (by simp [hsz])).alloc _).alloc _).alloc _).drew)
        case rest =>
          rename World => wd
          obtain ⟨g11, g12, g13, g14, rfl, rfl, rfl, rfl, B2, hge2, hne2, hb2, hz2⟩ := hcut
          replace hne2 := Lib.hid hne2
          have hb2' : Below wr.heap.size wr wd := hb1.trans (hb2.mono (by omega))
          have lt2 : w.heap.size + 2 < wr.heap.size := by omega
          replace H1 := below_blk hb2' H1.out lt2
          replace H2 := Lib.hid (below_blk hb2' H2.out (by omega))
          replace H3 := Lib.hid (below_blk hb2' H3.out (by omega))
          have e7 : g7 < wc1.heap.size := B1.out.1.lt
          have e8 : g8 < wc1.heap.size := B1.out.2.1.lt
          have e9 : g9 < wc1.heap.size := B1.out.2.2.1.lt
          have e10 : g10 < wc1.heap.size := B1.out.2.2.2.lt
          have hB : Below w.heap.size w wd := hb.trans (hb2'.mono (by omega))
          have D1 := Lib.hid (And.intro (below_blk hb2 B1.out.1 e7) (And.intro (below_blk hb2 B1.out.2.1 e8) (And.intro (below_blk hb2 B1.out.2.2.1 e9) (below_blk hb2 B1.out.2.2.2 e10))))
          have hnd : [g7, g8, g9, g10, g11, g12, g13, g14].Nodup := by
            have := hne.out; have := hne2.out
            simp only [List.nodup_cons, List.mem_cons, List.not_mem_nil, not_or]
            refine ⟨⟨by omega, by omega, by omega, by omega, by omega, by omega, by omega, not_false⟩, ⟨by omega, by omega, by omega, by omega, by omega, by omega, not_false⟩, ⟨by omega, by omega, by omega, by omega, by omega, not_false⟩, ⟨by omega, by omega, by omega, by omega, not_false⟩, ⟨by omega, by omega, by omega, not_false⟩, ⟨by omega, by omega, not_false⟩, ⟨by omega, not_false⟩, not_false, List.nodup_nil⟩
          have HN := Lib.hid hnd
          replace H1 := Lib.hid H1
          replace B2 := Lib.hid B2
          have hm2 : ∀ x, x ∈ [w.heap.size + 2, g7, g8, g9, g10, g11, g12, g13, g14] → w.heap.size + 2 ≤ x := by
            intro x hx
            simp only [List.mem_cons, List.not_mem_nil, or_false] at hx
            omega
          have HM := Lib.hid hm2
          clear hnd hm2 hb2' hb1 hb2 B1 hne hne2 a1 c4 c5 c6 c7 hge hge2 e7 e8 e9 e10 hz1 hz2 lt2
          have hmf : ∀ (fn : Fn) (first cap : Array Value) (w : World), (Instr.makeFunc fn first cap).run Tryd.prog w = .ok (.func fn first cap) w := fun _ _ _ _ => rfl
          go_wp2_with fail
          clear hmf
          go_loopw [45] (fun i wr => ∃ k : Nat, k ≤ 64 ∧ i = .int .i64 k ∧ Only [w.heap.size + 2, g7, g8, g9, g10, g11, g12, g13, g14] wd wr ∧
             Blk wr (w.heap.size + 2) 80 (uarr 16 ((St.ofHash (wordL s.data.toList) h).run K k).w) ∧
             Blk wr g7 22 #[.int .u32 (wv ((St.ofHash (wordL s.data.toList) h).run K k).a)] ∧ Blk wr g8 22 #[.int .u32 (wv ((St.ofHash (wordL s.data.toList) h).run K k).b)] ∧
             Blk wr g9 22 #[.int .u32 (wv ((St.ofHash (wordL s.data.toList) h).run K k).c)] ∧ Blk wr g10 22 #[.int .u32 (wv ((St.ofHash (wordL s.data.toList) h).run K k).d)] ∧
             Blk wr g11 22 #[.int .u32 (wv ((St.ofHash (wordL s.data.toList) h).run K k).e)] ∧ Blk wr g12 22 #[.int .u32 (wv ((St.ofHash (wordL s.data.toList) h).run K k).f)] ∧
             Blk wr g13 22 #[.int .u32 (wv ((St.ofHash (wordL s.data.toList) h).run K k).g)] ∧ Blk wr g14 22 #[.int .u32 (wv ((St.ofHash (wordL s.data.toList) h).run K k).h)])
            (fun i _ => 64 - (intOf i).toNat)
          case atStart => exact ⟨0, by omega, rfl, Only.refl _ _, H1.out, D1.out.1, D1.out.2.1, D1.out.2.2.1, D1.out.2.2.2, B2.out.1, B2.out.2.1, B2.out.2.2.1, B2.out.2.2.2⟩
          case round =>
            rename World => wq
            obtain ⟨k, hk, rfl, hO, q0, q1, q2, q3, q4, q5, q6, q7, q8⟩ := hrel
            generalize hst : (St.ofHash (wordL s.data.toList) h).run K k = st at *
            have HST := Lib.hid hst
            clear hst
            by_cases hlt : k < 64
            · have Q := Lib.hid (And.intro q0 (And.intro q1 (And.intro q2 (And.intro q3 (And.intro q4 (And.intro q5 (And.intro q6 (And.intro q7 q8))))))))
              clear q0 q1 q2 q3 q4 q5 q6 q7 q8
              go_wp2_with fail
              have hr : Calls Tryd.prog 45 #[.int .i64 k, .pointer (some ⟨w.heap.size + 2, 0, none⟩), .pointer (some ⟨g14, 0, none⟩), .pointer (some ⟨g11, 0, none⟩), .pointer (some ⟨g12, 0, none⟩), .pointer (some ⟨g13, 0, none⟩), .pointer (some ⟨g7, 0, none⟩), .pointer (some ⟨g8, 0, none⟩), .pointer (some ⟨g9, 0, none⟩), .pointer (some ⟨g10, 0, none⟩)] wq
                 fun ee w' => ee = .returned (.tuple #[]) ∧ Only [w.heap.size + 2, g7, g8, g9, g10, g11, g12, g13, g14] wq w' ∧ Blk w' (w.heap.size + 2) 80 (uarr 16 (st.step K k).w) ∧
                   Blk w' g7 22 #[.int .u32 (wv (st.step K k).a)] ∧ Blk w' g8 22 #[.int .u32 (wv (st.step K k).b)] ∧ Blk w' g9 22 #[.int .u32 (wv (st.step K k).c)] ∧ Blk w' g10 22 #[.int .u32 (wv (st.step K k).d)] ∧
                   Blk w' g11 22 #[.int .u32 (wv (st.step K k).e)] ∧ Blk w' g12 22 #[.int .u32 (wv (st.step K k).f)] ∧ Blk w' g13 22 #[.int .u32 (wv (st.step K k).g)] ∧ Blk w' g14 22 #[.int .u32 (wv (st.step K k).h)] := by
                have hKk : wq.cell? ⟨1, k, none⟩ = some (.int .u32 (wv (K k))) := by
                  rw [hO.cell (fun hm => by have := HM.out _ hm; simp at this), hB.cell hgl]; exact HK.out k hlt
                obtain ⟨q0, q1, q2, q3, q4, q5, q6, q7, q8⟩ := Q.out
                by_cases h16 : k < 16
                · exact round_lo _ _ _ _ _ _ _ _ _ k h16 st.w (K k) _ _ _ _ _ _ _ _ wq hKk (by omega) q0 q1 q2 q3 q4 q5 q6 q7 q8 HN.out
                · exact round_hi _ _ _ _ _ _ _ _ _ k (by omega) hlt st.w (K k) _ _ _ _ _ _ _ _ wq hKk (by omega) q0 q1 q2 q3 q4 q5 q6 q7 q8 HN.out
              refine hr.mono ?_
              rintro e w' ⟨rfl, hO', r0, r1, r2, r3, r4, r5, r6, r7, r8⟩
              have hOO := hO.trans hO'
              have R := Lib.hid (And.intro r0 (And.intro r1 (And.intro r2 (And.intro r3 (And.intro r4 (And.intro r5 (And.intro r6 (And.intro r7 r8))))))))
              clear r0 r1 r2 r3 r4 r5 r6 r7 r8
              go_wp2
              go_roundw
              case rel =>
                refine ⟨k + 1, by omega, by go_num, hOO, ?_⟩
                have e : (St.ofHash (wordL s.data.toList) h).run K (k + 1) = st.step K k := by rw [← HST.out]; rfl
                rw [e]
                exact R.out
              case measure => simp [intOf]; omega
            · have cA : wq.cell? ⟨g7, 0, none⟩ = some (.int .u32 (wv st.a)) := q1.cell 0
              have cB : wq.cell? ⟨g8, 0, none⟩ = some (.int .u32 (wv st.b)) := q2.cell 0
              have cC : wq.cell? ⟨g9, 0, none⟩ = some (.int .u32 (wv st.c)) := q3.cell 0
              have cD : wq.cell? ⟨g10, 0, none⟩ = some (.int .u32 (wv st.d)) := q4.cell 0
              have cE : wq.cell? ⟨g11, 0, none⟩ = some (.int .u32 (wv st.e)) := q5.cell 0
              have cF : wq.cell? ⟨g12, 0, none⟩ = some (.int .u32 (wv st.f)) := q6.cell 0
              have cG : wq.cell? ⟨g13, 0, none⟩ = some (.int .u32 (wv st.g)) := q7.cell 0
              have cH : wq.cell? ⟨g14, 0, none⟩ = some (.int .u32 (wv st.h)) := q8.cell 0
              have hB2 : ∀ x, x < w.heap.size + 2 → x ∉ [w.heap.size + 2, g7, g8, g9, g10, g11, g12, g13, g14] := fun x hx hm => by have := HM.out x hm; omega
              have N2 := Lib.hid (hO.blk H2.out (hB2 _ (by omega)))
              have N3 := Lib.hid (hO.blk H3.out (hB2 _ (by omega)))
              have hBq : Below w.heap.size w wq := hB.trans (hO.below (fun k hk => by have := HM.out k hk; omega))
              clear q0 q1 q2 q3 q4 q5 q6 q7 q8 hO hB2
              go_wp2_with fail
              clear cA cB cC cD cE cF cG cH
              rw [show (#[Value.int IntKind.u32 (wv st.a), Value.int IntKind.u32 (wv st.b), Value.int IntKind.u32 (wv st.c), Value.int IntKind.u32 (wv st.d), Value.int IntKind.u32 (wv st.e), Value.int IntKind.u32 (wv st.f), Value.int IntKind.u32 (wv st.g), Value.int IntKind.u32 (wv st.h)] : Array Value) = uarr 8 st.out from rfl]
              go_loopw [61] (fun i wr => ∃ k : Nat, k ≤ 8 ∧ i = .int .i64 k ∧ Blk wr w.heap.size 60 (uarr 8 (fun j => if j < k then h j + st.out j else h j)) ∧ Blk wr (w.heap.size + 1) 60 (uarr 8 (fun _ => 0)) ∧ Below w.heap.size w wr)
                (fun i _ => 8 - (intOf i).toNat)
              case atStart => exact ⟨0, by omega, rfl, N2.out, N3.out, hBq⟩
              case round =>
                rename World => wz
                rename_i hk9 _ 
                obtain ⟨j, hj, rfl, r1, r2, r3⟩ := hrel
                by_cases hlt : j < 8
                · have hel := uarr_get 8 st.out j hlt
                  have hc := (r1.cell j).trans (uarr_get 8 _ j hlt)
                  simp only [Nat.lt_irrefl, if_false] at hc
                  have hf := r1.frozen j
                  have hidx := run_index_one (P := Tryd.prog) 60 22 8 _ .i64 .u32 j _ Tryd.underlying60 Tryd.underlying22 (by kernel_rfl) hlt hel
                  have H1 := Lib.hid r1
                  have H2 := Lib.hid r2
                  clear r1 r2 hel
                  go_wp2
                  go_roundw
                  case rel =>
                    refine ⟨j + 1, by omega, by go_num, ?_, H2.out.far (by simp) _, r3.setCell (by simp) _⟩
                    have hh := H1.out.set_ j (.int .u32 (wv (h j + st.out j)))
                    rw [uarr_set] at hh
                    rw [u32_add, uarr_congr 8 _ (upd (fun i => if i < j then h i + st.out i else h i) j (h j + st.out j)) (fun i hi => by
                      unfold upd; by_cases e : i = j
                      · subst e; simp
                      · by_cases l : i < j
                        · simp [e, l]; omega
                        · simp [e, l]; omega)]
                    exact hh
                  case measure => simp [intOf]; omega
                · have r1' : Blk wz w.heap.size 60 (uarr 8 (compressF K (wordL s.data.toList) h)) := by
                    rw [uarr_congr 8 (compressF K (wordL s.data.toList) h) (fun i => if i < j then h i + st.out i else h i) (fun i hi => by
                      rw [if_pos (by omega), ← HST.out, show k = 64 by omega]; rfl)]
                    exact r1
                  clear r1
                  have R1 := Lib.hid r1'
                  have R2 := Lib.hid r2
                  clear r1' r2
                  go_wp2_with (first
                    | ((with_reducible refine at_load 2 ?_); refine wpList_load_row rfl 60 (.tmp 2) rfl w.heap.size rfl 60 (uarr 8 (compressF K (wordL s.data.toList) h)) (0, 0) _ R1.out Tryd.underlying60 rfl (by rw [uarr_size]; kernel_rfl) ?_)
                    | ((with_reducible refine at_store 4 72 ?_); refine wpList_store_arr rfl 60 (.tmp 4) (.tmp 72) rfl rfl (w.heap.size + 1) (uarr 8 (compressF K (wordL s.data.toList) h)) rfl rfl 60 _ R2.out (by rw [uarr_size]; kernel_rfl) (by rw [uarr_size, uarr_size]) (uarr_one _ _) ?_; intro w5 o5 b5))
                  refine bodyPost_ret (results_cell_row rfl _ _ (w.heap.size + 1) 60 _ (0, 0) _ rfl b5 Tryd.underlying60 rfl (by rw [uarr_size]; kernel_rfl)) rfl ⟨rfl, r3.trans (o5.below (by simp))⟩
end Go.Proofs.YtfmidmhbnpincaaDoor
/- sha.key: the hash's bytes. -/
namespace Go.Proofs.YtfmidmhbnpincaaDoor
open Go.RowKit
set_option maxRecDepth 20000 in
set_option maxHeartbeats 1000000 in
theorem skey_any (h : Nat → BitVec 32) (w : World) :
    Calls Tryd.prog 36 #[.agg (uarr 8 h)] w fun e w' => e = .returned (.agg (bytesA (hashBytes h))) ∧ Below w.heap.size w w' := by
  go_enter Tryd.func36, Tryd.ntmps36
  go_wp2_with ((with_reducible refine at_load 1 ?_); refine wpList_load_row rfl 60 (.tmp 1) rfl w.heap.size rfl 60 (uarr 8 h) (0, 0) _ (((Blk.new w _ _).alloc _).alloc _) Tryd.underlying60 rfl (by rw [uarr_size]; kernel_rfl) ?_)
  go_loopw [8] (fun i wr => ∃ k : Nat, k ≤ 8 ∧ i = .int .i64 k ∧ Blk wr (w.heap.size + 2) 24 (bytesA (tab 32 fun j => if j < 4 * k then byteOf (h (j / 4)) (j % 4) else 0)) ∧
      Blk wr (w.heap.size + 1) 24 (bytesA (tab 32 fun _ => 0)) ∧ Below w.heap.size w wr)
    (fun i _ => 8 - (intOf i).toNat)
  case atStart =>
    refine ⟨0, by omega, rfl, ?_, ?_, ?_⟩
    · exact blk_new _ (bytesA (tab 32 fun j => if j < 4 * 0 then byteOf (h (j / 4)) (j % 4) else 0)) (by simp)
    · exact (blk_new _ (bytesA (tab 32 fun _ => 0)) (by simp)).alloc _
    · exact (((Below.refl _ _).alloc (Nat.le_refl _) _).alloc (by simp) _).alloc (by simp; omega) _
  case round =>
    obtain ⟨k, hk, rfl, h1, h2, hb⟩ := hrel
    by_cases hlt : k < 8
    · have hidx := run_index_one (P := Tryd.prog) 60 22 8 _ .i64 .u32 k _ Tryd.underlying60 Tryd.underlying22 (by kernel_rfl) hlt (uarr_get 8 h k hlt)
      have H1 := Lib.hid h1
      have H2 := Lib.hid h2
      clear h1 h2
      go_wp2_with fail
      go_loopw [12] (fun i wr => ∃ j : Nat, j ≤ 4 ∧ i = .int .i64 j ∧ Blk wr (w.heap.size + 2) 24 (bytesA (tab 32 fun i => if i < 4 * k + j then byteOf (h (i / 4)) (i % 4) else 0)) ∧
          Blk wr (w.heap.size + 1) 24 (bytesA (tab 32 fun _ => 0)) ∧ Below w.heap.size w wr)
        (fun i _ => 4 - (intOf i).toNat)
      case atStart => exact ⟨0, by omega, rfl, H1.out, H2.out, hb⟩
      case round =>
        clear hb H1 H2 hidx
        rename World => wq
        obtain ⟨j, hj, rfl, h1, h2, hb⟩ := hrel
        by_cases hl : j < 4
        · have hin : 4 * k + j < (tab 32 fun i => if i < 4 * k + j then byteOf (h (i / 4)) (i % 4) else 0).length := by rw [tab_len]; omega
          have hc : wq.cell? ⟨w.heap.size + 1 + 1, 4 * k + j, none⟩ = _ := (h1.cell _).trans (bytesA_get _ _ hin)
          have hf : wq.frozen? ⟨w.heap.size + 1 + 1, 4 * k + j, none⟩ = false := h1.frozen _
          have H1 := Lib.hid h1
          have H2 := Lib.hid h2
          clear h1 h2
          have i0 : (0 : Int) ≤ 24 - 8 * (j : Int) := by omega
          have i1 : 24 - 8 * (j : Int) ≤ 32 := by omega
          have i2 : 4 * (k : Int) + (j : Int) < 32 := by omega
          go_wp2
          go_roundw
          case rel =>
            refine ⟨j + 1, by omega, by go_num, ?_, H2.out.far (by simp) _, hb.setCell (by simp; omega) _⟩
            have hh := H1.out.set_ (4 * k + j) (.int .u8 ((byteOf (h k) j).toNat : Int))
            rw [bytesA_set, tab_set 32 _ (fun i => if i < 4 * k + (j + 1) then byteOf (h (i / 4)) (i % 4) else 0) _ _ (fun i hi => by
              by_cases e : i = 4 * k + j
              · subst e
                rw [if_pos (by omega), if_pos rfl, show (4 * k + j) / 4 = k by omega, show (4 * k + j) % 4 = j by omega]
              · rw [if_neg e]
                by_cases l : i < 4 * k + j
                · rw [if_pos l, if_pos (by omega)]
                · rw [if_neg l, if_neg (by omega)])] at hh
            rw [u32_shr, byteOf_eq]
            exact hh
          case measure => simp [intOf]; omega
        · go_wp2_with fail
          go_roundw
          case rel =>
            refine ⟨k + 1, by omega, by go_num, ?_, h2, hb⟩
            rw [show 4 * (k + 1) = 4 * k + j by omega]
            exact h1
          case measure => simp [intOf]; omega
    · have h1' : Blk wr (w.heap.size + 2) 24 (bytesA (hashBytes h)) := by
        unfold hashBytes
        rw [tab_congr 32 (fun j => byteOf (h (j / 4)) (j % 4)) (fun j => if j < 4 * k then byteOf (h (j / 4)) (j % 4) else 0) (fun i hi => (if_pos (by omega)).symm)]
        exact h1
      have H1 := Lib.hid h1'
      have H2 := Lib.hid h2
      clear h1 h2 h1'
      have hlen : (hashBytes h).length = 32 := tab_len _ _
      go_wp2_with (first
        | ((with_reducible refine at_load 3 ?_); refine wpList_load_row rfl 24 (.tmp 3) rfl (w.heap.size + 2) rfl 24 (bytesA (hashBytes h)) (0, 0) _ H1.out Tryd.underlying24 rfl (by rw [bytesA_size, hlen]; kernel_rfl) ?_)
        | ((with_reducible refine at_store 2 28 ?_); refine wpList_store_arr rfl 24 (.tmp 2) (.tmp 28) rfl rfl (w.heap.size + 1) (bytesA (hashBytes h)) rfl rfl 24 _ H2.out (by rw [bytesA_size, hlen]; kernel_rfl) (by rw [bytesA_size, bytesA_size, hlen, tab_len]) (bytesA_one _) ?_; intro w5 o5 b5))
      exact bodyPost_ret (results_cell_row rfl _ _ (w.heap.size + 1) 24 _ (0, 0) _ rfl b5 Tryd.underlying24 rfl (by rw [bytesA_size, hlen]; kernel_rfl)) rfl ⟨rfl, hb.trans (o5.below (by simp))⟩
end Go.Proofs.YtfmidmhbnpincaaDoor
/- sha.Pad, by the Builder's contracts. -/
namespace Go.Proofs.YtfmidmhbnpincaaDoor
open Go.RowKit
set_option maxRecDepth 20000 in
set_option maxHeartbeats 1000000 in
theorem pad_any (s : ByteArray) (hs : s.size ≤ 1000000) (w : World) :
    Calls Tryd.prog 34 #[.string s] w fun e w' => e = .returned (.string ⟨(padL s.data.toList).toArray⟩) ∧ Below w.heap.size w w' := by
  have hz := padZ_lt s.size
  have hsl : s.data.toList.length = s.size := Array.length_toList
  have HL := Lib.hid hsl
  have hrem : (119 - (s.size : Int) % 64) % 64 = (padZ s.size : Nat) := by unfold padZ; omega
  have HZ := Lib.hid hrem
  clear hsl hrem
  generalize hzz : padZ s.size = z at *
  have HZZ := Lib.hid hzz
  clear hzz
  go_enter Tryd.func34, Tryd.ntmps34
  go_wp2_with fail
  rw [HZ.out, show (s.size : Int) + 1 + (119 - (s.size : Int)) % 64 + 8 = ((s.size + 1 + z + 8 : Nat) : Int) by have := HZ.out; omega]
  refine (bld_grow w.heap.size w.heap.size _ _ (Nat.le_refl _) (blk_new _ _ rfl) (by simp) (by omega)).mono ?_
  rintro e w1 ⟨rfl, g1, b1⟩
  have B1 : Below w.heap.size w w1 := ((Below.refl _ _).alloc (Nat.le_refl _) _).trans b1
  have G1 := Lib.hid g1
  clear g1 b1
  go_wp2_with fail
  refine (bld_writeString w.heap.size w.heap.size [] s _ (.inr G1.out) (by simp; omega) B1.size).mono ?_
  rintro e w2 ⟨rfl, g2, b2⟩
  have B2 := B1.trans b2
  have G2 : Hid (Lib.IsBuilder 72 5 w.heap.size w.heap.size (Lib.byteCells s.data.toList) w2) := .inr (by simpa [Lib.strCells_eq] using g2)
  clear g2 b2 G1 B1
  go_wp2_with fail
  refine (bld_writeByte w.heap.size w.heap.size _ _ _ G2.out (by rw [byteCells_len, HL.out]; omega) B2.size).mono ?_
  rintro e w3 ⟨rfl, g3, b3⟩
  have B3 := B2.trans b3
  rw [byteCells_snoc _ 128 128 rfl] at g3
  have G3 : Hid (Lib.IsBuilder 72 5 w.heap.size w.heap.size (Lib.byteCells (padHead s.data.toList 0)) w3) := .inr (by simpa [padHead] using g3)
  clear g3 b3 G2 B2
  go_wp2_with fail
  go_loopw [23] (fun i wr => ∃ k : Nat, k ≤ z ∧ i = .int .i64 k ∧ Lib.IsBuilder 72 5 w.heap.size w.heap.size (Lib.byteCells (padHead s.data.toList k)) wr ∧ Below w.heap.size w wr)
    (fun i _ => z - (intOf i).toNat)
  case atStart => exact ⟨0, by omega, rfl, G3.out, B3⟩
  case round =>
    obtain ⟨k, hk, rfl, hg, hb⟩ := hrel
    have HG := Lib.hid hg
    clear hg
    by_cases hlt : k < z
    · go_wp2_with fail
      refine (bld_writeByte w.heap.size w.heap.size _ _ _ HG.out (by rw [byteCells_len, padHead_len, HL.out]; omega) hb.size).mono ?_
      rintro e w4 ⟨rfl, g4, b4⟩
      have B4 := hb.trans b4
      rw [byteCells_snoc _ 0 0 rfl, ← padHead_succ] at g4
      have G4 := Lib.hid g4
      clear g4 b4
      go_wp2
      go_roundw
      case rel => exact ⟨k + 1, by omega, by go_num, .inr G4.out, B4⟩
      case measure => simp [intOf]; omega
    · have hkz : k = padZ s.data.toList.length := by rw [HL.out, HZZ.out]; omega
      have HG2 : Hid (Lib.IsBuilder 72 5 w.heap.size w.heap.size (Lib.byteCells (padTo s.data.toList 0)) wr) := by
        rw [show padTo s.data.toList 0 = padHead s.data.toList (padZ s.data.toList.length) by simp [padTo], ← hkz]; exact HG.out
      clear HG hkz
      go_wp2_with fail
      go_loopw [31] (fun i wr => ∃ j : Nat, j ≤ 8 ∧ i = .int .i64 j ∧ Lib.IsBuilder 72 5 w.heap.size w.heap.size (Lib.byteCells (padTo s.data.toList j)) wr ∧ Below w.heap.size w wr)
        (fun i _ => 8 - (intOf i).toNat)
      case atStart => exact ⟨0, by omega, rfl, HG2.out, hb⟩
      case round =>
        clear HG2 hb
        rename World => wq
        obtain ⟨j, hj, rfl, hg, hb⟩ := hrel
        have HG := Lib.hid hg
        clear hg
        by_cases hl : j < 8
        · have i0 : (0 : Int) ≤ 56 - 8 * (j : Int) := by omega
          have i1 : 56 - 8 * (j : Int) ≤ 64 := by omega
          go_wp2_with fail
          refine (bld_writeByte w.heap.size w.heap.size _ _ _ HG.out (by rw [byteCells_len, padTo_len, HL.out, HZZ.out]; omega) hb.size).mono ?_
          rintro e w4 ⟨rfl, g4, b4⟩
          have B4 := hb.trans b4
          rw [byteCells_snoc _ (lenB s.data.toList.length j) _ (by rw [lenB_eq, HL.out]), ← padTo_succ] at g4
          have G4 := Lib.hid g4
          clear g4 b4
          go_wp2
          go_roundw
          case rel => exact ⟨j + 1, by omega, by go_num, .inr G4.out, B4⟩
          case measure => simp [intOf]; omega
        · have hj8 : j = 8 := by omega
          have HG2 : Hid (Lib.IsBuilder 72 5 w.heap.size w.heap.size (Lib.byteCells (padL s.data.toList)) wq) := by
            unfold padL; rw [← hj8]; exact HG.out
          clear HG hj8
          go_wp2_with fail
          refine (bld_string w.heap.size w.heap.size _ _ HG2.out hb.size).mono ?_
          rintro e w5 ⟨rfl, b5⟩
          have B5 := hb.trans b5
          go_wp2
          go_ret
          exact ⟨rfl, B5⟩
end Go.Proofs.YtfmidmhbnpincaaDoor
/- sha.Sum, Double and Pair: the hash by its contracts' pieces. -/
namespace Go.Proofs.YtfmidmhbnpincaaDoor
open Go.RowKit
/-- the tables of roots lie where start-up laid them -/
def Roots (w : World) : Prop := (∀ i, i < 8 → w.cell? ⟨0, i, none⟩ = some (.int .u32 (wv (hF i)))) ∧ (∀ i, i < 64 → w.cell? ⟨1, i, none⟩ = some (.int .u32 (wv (kF i))))
theorem Roots.below {B : Nat} {w w' : World} (h : Roots w) (hb : Below B w w') (h0 : 0 < B) (h1 : 1 < B) : Roots w' :=
  ⟨fun i hi => (hb.cell (by simpa using h0)).trans (h.1 i hi), fun i hi => (hb.cell (by simpa using h1)).trans (h.2 i hi)⟩
theorem Roots.lt0 {w : World} (h : Roots w) : 0 < w.heap.size := World.block_lt_of_cell? w _ (h.1 0 (by omega))
theorem Roots.lt1 {w : World} (h : Roots w) : 1 < w.heap.size := World.block_lt_of_cell? w _ (h.2 0 (by omega))
theorem uarr8 (f : Nat → BitVec 32) : uarr 8 f = #[.int .u32 (wv (f 0)), .int .u32 (wv (f 1)), .int .u32 (wv (f 2)), .int .u32 (wv (f 3)), .int .u32 (wv (f 4)), .int .u32 (wv (f 5)), .int .u32 (wv (f 6)), .int .u32 (wv (f 7))] := rfl
set_option maxRecDepth 20000 in
set_option maxHeartbeats 1000000 in
theorem sum_any (s : ByteArray) (hs : s.size ≤ 1000000) (w : World) (hR : Roots w) :
    Calls Tryd.prog 31 #[.string s] w fun e w' => e = .returned (.agg (bytesA (sumL s.data.toList))) ∧ Below w.heap.size w w' := by
  have r0 := hR.1 0 (by omega)
  have r1 := hR.1 1 (by omega)
  have r2 := hR.1 2 (by omega)
  have r3 := hR.1 3 (by omega)
  have r4 := hR.1 4 (by omega)
  have r5 := hR.1 5 (by omega)
  have r6 := hR.1 6 (by omega)
  have r7 := hR.1 7 (by omega)
  have HR := Lib.hid hR
  have l0 := hR.lt0
  have l1 := hR.lt1
  clear hR
  go_enter Tryd.func31, Tryd.ntmps31
  go_wp2_with fail
  refine (pad_any s hs _).mono ?_
  rintro e w1 ⟨rfl, b1⟩
  clear r0 r1 r2 r3 r4 r5 r6 r7
  have hl : s.data.toList.length = s.size := Array.length_toList
  obtain ⟨p, hp⟩ : ∃ p : ByteArray, (⟨(padL s.data.toList).toArray⟩ : ByteArray) = p := ⟨_, rfl⟩
  have hpl : p.data.toList = padL s.data.toList := by rw [← hp]
  have hps : p.size = (padL s.data.toList).length := by rw [← hp]; simp [ByteArray.size]
  have hpm := padL_mod s.data.toList
  have hpb : p.size ≤ 2000000 := by
    rw [hps]; have := padTo_len s.data.toList 8; have := padZ_lt s.data.toList.length; unfold padL; omega
  obtain ⟨m, hm⟩ : ∃ m, p.size = 64 * m := ⟨p.size / 64, by omega⟩
  rw [hp]
  have HP := Lib.hid hp
  have HPL := Lib.hid hpl
  have HPM := Lib.hid hm
  have HPS := Lib.hid hps
  have hq : (p.size : Int) / 64 = m := by omega
  have hmb : m ≤ 40000 := by omega
  have B1 : Below w.heap.size w w1 := (((Below.refl _ _).alloc (Nat.le_refl _) _).alloc (by simp) _).trans (b1.mono (by simp; omega))
  have K0 := Lib.hid (below_blk b1 ((Blk.new w 24 (bytesA (List.replicate 32 0))).alloc _) (by simp; omega))
  have K1 := Lib.hid (below_blk b1 (blk_new (w := w.alloc (.cells (bytesA (List.replicate 32 0)) 24)) 60 (uarr 8 hF) (g := w.heap.size + 1) (by simp)) (by simp))
  clear hp hpl hps hpm hm b1 hpb
  go_wp2_with fail
  clear hq
  go_loopw [12] (fun i wr => ∃ k : Nat, k ≤ m ∧ i = .int .i64 k ∧ Blk wr (w.heap.size + 1) 60 (uarr 8 (hashN (padL s.data.toList) k)) ∧ Blk wr w.heap.size 24 (bytesA (List.replicate 32 0)) ∧ Below w.heap.size w wr)
    (fun i _ => m - (intOf i).toNat)
  case atStart => exact ⟨0, by omega, rfl, K1.out, K0.out, B1⟩
  case round =>
    clear K0 K1 B1
    rename World => wr
    obtain ⟨k, hk, rfl, h1, h2, hb⟩ := hrel
    have H1 := Lib.hid h1
    have H2 := Lib.hid h2
    have hc : ∀ j, j < 8 → wr.cell? ⟨w.heap.size + 1, j, none⟩ = some (.int .u32 (wv (hashN (padL s.data.toList) k j))) := fun j hj => by rw [h1.cell, uarr_get _ _ _ hj]
    clear h1 h2
    by_cases hlt : k < m
    · have c0 := hc 0 (by omega)
      have c1 := hc 1 (by omega)
      have c2 := hc 2 (by omega)
      have c3 := hc 3 (by omega)
      have c4 := hc 4 (by omega)
      have c5 := hc 5 (by omega)
      have c6 := hc 6 (by omega)
      have c7 := hc 7 (by omega)
      clear hc
      have i0 : (k : Int) * 64 + 64 ≤ 64 * m := by omega
      have i1 : IntKind.i64.wrap ((k : Int) * 64) = (k : Int) * 64 := IntWalk.i64_in _ (by omega)
      have i2 : IntKind.i64.wrap ((k : Int) + 1) = (k : Int) + 1 := IntWalk.i64_in _ (by omega)
      have i3 : IntKind.i64.wrap (((k : Int) + 1) * 64) = ((k : Int) + 1) * 64 := IntWalk.i64_in _ (by omega)
      have hsl : ∀ W, (Instr.slice 9 (.string p) (some (.int .i64 ((k : Int) * 64))) (some (.int .i64 (((k : Int) + 1) * 64))) none).run Tryd.prog W = .ok (.string (p.extract (64 * k) (64 * k + 64))) W := fun W => by
        have hh := HPM.out
        have e1 : ((k : Int) * 64).toNat = 64 * k := by omega
        have e2 : (((k : Int) + 1) * 64).toNat = 64 * k + 64 := by omega
        rw [run_slice_string_if W 9 p .i64 .i64 _ _ Tryd.underlying9, if_pos (by omega), e1, e2, if_pos (by omega)]
      go_wp2_with fail
      refine wp_region_still_tail 8 (by kernel_rfl) (by kernel_rfl) ?_
      simp only [List.take_succ_cons, List.take_zero, List.drop_succ_cons, List.drop_zero]
      repeat still_step
      refine wpStill_nil ?_
      change wpList _ _ _ _ _ wr.drew
      rw [← uarr8 (hashN (padL s.data.toList) k)]
      clear c0 c1 c2 c3 c4 c5 c6 c7 hsl i0 i1 i2 i3
      go_wp2_with fail
      have hbs : (p.extract (64 * k) (64 * k + 64)).size = 64 := by rw [ByteArray.size_extract]; have := HPM.out; omega
      refine (compress_any kF _ _ hbs _ (fun i hi => (hb.drew.cell (by simpa using l1)).trans (HR.out.2 i hi))).mono ?_
      rintro e w2 ⟨rfl, b2⟩
      have hbl : (p.extract (64 * k) (64 * k + 64)).data.toList = blockL (padL s.data.toList) k := by
        rw [extract_list, HPL.out, show 64 * k + 64 - 64 * k = 64 by omega]; rfl
      rw [hbl]
      have B2 : Below w.heap.size w w2 := hb.drew.trans (b2.mono (by have := hb.size; simpa using this))
      have J1 := Lib.hid (below_blk b2 H1.out.drew H1.out.lt)
      have J2 := Lib.hid (below_blk b2 H2.out.drew H2.out.lt)
      clear hb H1 H2 b2 hbl hbs
      go_wp2_with ((with_reducible refine at_store 3 23 ?_); refine wpList_store_arr rfl 60 (.tmp 3) (.tmp 23) rfl rfl (w.heap.size + 1) (uarr 8 (hashN (padL s.data.toList) (k + 1))) rfl rfl 60 _ J1.out (by rw [uarr_size]; kernel_rfl) (by rw [uarr_size, uarr_size]) (uarr_one _ _) ?_; intro w5 o5 b5)
      go_roundw
      case rel => exact ⟨k + 1, by omega, by go_num, b5, o5.blk J2.out (by simp), B2.trans (o5.below (by simp))⟩
      case measure => simp [intOf]; omega
    · have hkm := Lib.hid (show k = (padL s.data.toList).length / 64 by have := HPM.out; have := HPS.out; omega)
      clear hc
      go_wp2_with ((with_reducible refine at_load 3 ?_); refine wpList_load_row rfl 60 (.tmp 3) rfl (w.heap.size + 1) rfl 60 (uarr 8 (hashN (padL s.data.toList) k)) (0, 0) _ H1.out Tryd.underlying60 rfl (by rw [uarr_size]; kernel_rfl) ?_)
      refine (skey_any _ _).mono ?_
      rintro e w2 ⟨rfl, b2⟩
      have J2 := Lib.hid (below_blk b2 H2.out H2.out.lt)
      have B2 : Below w.heap.size w w2 := hb.trans (b2.mono hb.size)
      have hlen : (hashBytes (hashN (padL s.data.toList) k)).length = 32 := tab_len _ _
      have he : hashBytes (hashN (padL s.data.toList) k) = sumL s.data.toList := by rw [hkm.out]; rfl
      have HKM := Lib.hid he
      have HLEN := Lib.hid hlen
      clear hkm he hlen H1 H2 b2 hb
      go_wp2_with ((with_reducible refine at_store 2 26 ?_); refine wpList_store_arr rfl 24 (.tmp 2) (.tmp 26) rfl rfl w.heap.size (bytesA (hashBytes (hashN (padL s.data.toList) k))) rfl rfl 24 _ J2.out (by rw [bytesA_size, HLEN.out]; kernel_rfl) (by rw [bytesA_size, bytesA_size, HLEN.out]; simp) (bytesA_one _) ?_; intro w5 o5 b5)
      rw [HKM.out] at b5
      exact bodyPost_ret (results_cell_row rfl _ _ w.heap.size 24 _ (0, 0) _ rfl b5 Tryd.underlying24 rfl (by rw [bytesA_size, sumL_len]; kernel_rfl)) rfl ⟨rfl, B2.trans (o5.below (by simp))⟩
end Go.Proofs.YtfmidmhbnpincaaDoor
/- sha.Double and Pair; the statements' own 'shown'. -/
namespace Go.Proofs.YtfmidmhbnpincaaDoor
open Go.RowKit
theorem conv_key (W : World) (b : Nat) (t : TypeId) (l : List UInt8) (h : Blk W b t (bytesA l)) (hl : l.length = 32) :
    (convert 59 9 (.slice (some ⟨b, 0, none⟩) 32 32)).run Tryd.prog W = .ok (.string ⟨l.toArray⟩) W := by
  have := run_convert_bytes_back (P := Tryd.prog) W 59 9 5 ⟨b, 0, none⟩ 32 l Tryd.underlying59 Tryd.underlying5 Tryd.underlying9 (fun j hj => by
    rw [show (⟨b, 0, none⟩ : Addr).add j = ⟨b, j, none⟩ by unfold Addr.add; split <;> simp_all]
    exact (h.cell j).trans (bytesA_get l j hj))
  rw [hl] at this
  exact this
def dblL (l : List UInt8) : List UInt8 := sumL (sumL l)
theorem sz_arr (l : List UInt8) (h : l.length = 32) : (Tryd.prog.info? 24).map (·.size) = some (bytesA l).size := by rw [bytesA_size, h]; kernel_rfl
set_option maxRecDepth 20000 in
set_option maxHeartbeats 1000000 in
theorem double_any (s : ByteArray) (hs : s.size ≤ 1000000) (w : World) (hR : Roots w) :
    Calls Tryd.prog 29 #[.string s] w fun e w' => e = .returned (.agg (bytesA (dblL s.data.toList))) ∧ Below w.heap.size w w' := by
  have HR := Lib.hid hR
  have l0 := hR.lt0
  have l1 := hR.lt1
  clear hR
  go_enter Tryd.func29, Tryd.ntmps29
  go_wp2_with fail
  refine (sum_any s hs _ (HR.out.below ((Below.refl w.heap.size _).alloc (Nat.le_refl _) _) l0 l1)).mono ?_
  rintro e w1 ⟨rfl, b1⟩
  have B1 : Below w.heap.size w w1 := ((Below.refl _ _).alloc (Nat.le_refl _) _).trans (b1.mono (by simp))
  have K0 := Lib.hid (below_blk b1 (Blk.new w 24 (bytesA (List.replicate 32 0))) (by simp))
  have hw1 : w.heap.size < w1.heap.size := by have := b1.size; simp at this; omega
  clear b1
  go_wp2_with ((with_reducible refine at_store 3 5 ?_); refine wpList_store_arr rfl 24 (.tmp 3) (.tmp 5) rfl rfl w1.heap.size (bytesA (sumL s.data.toList)) rfl rfl 24 _ (Blk.new w1 _ (bytesA (List.replicate 32 0))) (sz_arr _ (sumL_len _)) (by rw [bytesA_size, bytesA_size, sumL_len]; simp) (bytesA_one _) ?_; intro w2 o2 b2)
  rw [conv_key _ _ _ _ b2 (sumL_len _)]
  have B2 : Below w.heap.size w w2 := (B1.alloc B1.size _).trans (o2.below (by simp; exact B1.size))
  have K2 := Lib.hid (o2.blk (K0.out.alloc _) (by simp; omega))
  clear B1 K0 o2 b2
  go_wp2_with fail
  refine (sum_any _ (by simp [ByteArray.size, sumL_len]) _ (HR.out.below B2 l0 l1)).mono ?_
  rintro e w3 ⟨rfl, b3⟩
  have B3 : Below w.heap.size w w3 := B2.trans (b3.mono B2.size)
  have K3 := Lib.hid (below_blk b3 K2.out K2.out.lt)
  clear B2 K2 b3
  go_wp2_with ((with_reducible refine at_store 2 8 ?_); refine wpList_store_arr rfl 24 (.tmp 2) (.tmp 8) rfl rfl w.heap.size (bytesA (dblL s.data.toList)) rfl rfl 24 _ K3.out (sz_arr _ (sumL_len _)) (by rw [bytesA_size, bytesA_size]; simp [dblL, sumL_len]) (bytesA_one _) ?_; intro w5 o5 b5)
  exact bodyPost_ret (results_cell_row rfl _ _ w.heap.size 24 _ (0, 0) _ rfl b5 Tryd.underlying24 rfl (sz_arr _ (sumL_len _))) rfl ⟨rfl, B3.trans (o5.below (by simp))⟩
def pairL (a b : List UInt8) : List UInt8 := dblL (a ++ b)
theorem toArray_list (l : List UInt8) : (⟨l.toArray⟩ : ByteArray).data.toList = l := rfl
theorem string_add (a b : List UInt8) : (⟨a.toArray⟩ : ByteArray) ++ (⟨b.toArray⟩ : ByteArray) = ⟨(a ++ b).toArray⟩ := by
  apply ByteArray.ext
  rw [ByteArray.data_append]
  simp
set_option maxRecDepth 20000 in
set_option maxHeartbeats 1000000 in
theorem pair_any (a b : List UInt8) (ha : a.length = 32) (hb : b.length = 32) (w : World) (hR : Roots w) :
    Calls Tryd.prog 24 #[.agg (bytesA a), .agg (bytesA b)] w fun e w' => e = .returned (.agg (bytesA (pairL a b))) ∧ Below w.heap.size w w' := by
  have HR := Lib.hid hR
  have l0 := hR.lt0
  have l1 := hR.lt1
  have Ha := Lib.hid ha
  have Hb := Lib.hid hb
  clear hR ha hb
  go_enter Tryd.func24, Tryd.ntmps24
  go_wp2_with fail
  obtain ⟨W, hW⟩ : ∃ W, ((w.alloc (Obj.cells (bytesA a) 24)).alloc (Obj.cells (bytesA b) 24)).alloc (Obj.cells (bytesA (List.replicate 32 0)) 24) = W := ⟨_, rfl⟩
  have e0 : bytesA (List.replicate 32 0) = (List.replicate 32 (Value.int .u8 0)).toArray := rfl
  have B0 : Below w.heap.size w W := by rw [← hW]; exact (((Below.refl _ _).alloc (Nat.le_refl _) _).alloc (by simp) _).alloc (by simp; omega) _
  have K0 : Blk W w.heap.size 24 (bytesA a) := by rw [← hW]; exact ((Blk.new _ _ _).alloc _).alloc _
  have K1 : Blk W (w.heap.size + 1) 24 (bytesA b) := by rw [← hW]; exact (blk_new _ _ (by simp)).alloc _
  have K2 : Blk W (w.heap.size + 1 + 1) 24 (bytesA (List.replicate 32 0)) := by rw [← hW]; exact blk_new _ _ (by simp)
  have hc1 := conv_key W.drew _ _ _ K0 Ha.out
  have hc2 := conv_key W.drew _ _ _ K1 Hb.out
  have J2 := Lib.hid K2
  clear K0 K1 K2 e0
  change Code.wp _ _ _ _ (((w.alloc (Obj.cells (bytesA a) 24)).alloc (Obj.cells (bytesA b) 24)).alloc (Obj.cells (bytesA (List.replicate 32 0)) 24))
  rw [hW]
  clear hW
  have hadd : ∀ V, (Op.stringOp .add ⟨a.toArray⟩ ⟨b.toArray⟩).run Tryd.prog V = .ok (.string ⟨(a ++ b).toArray⟩) V := fun V => run_string_add_lists V a b (by rw [Ha.out]; decide) (by rw [Hb.out]; decide)
  refine wp_region_still_tail 5 (by kernel_rfl) (by kernel_rfl) ?_
  simp only [List.take_succ_cons, List.take_zero, List.drop_succ_cons, List.drop_zero]
  repeat still_step
  refine wpStill_nil ?_
  change wpList _ _ _ _ _ W.drew
  clear hc1 hc2 hadd
  go_wp2_with fail
  refine (double_any _ (by simp [ByteArray.size, Ha.out, Hb.out]) _ (HR.out.below B0.drew l0 l1)).mono ?_
  rintro e w3 ⟨rfl, b3⟩
  have B3 : Below w.heap.size w w3 := B0.drew.trans (b3.mono B0.size)
  have K3 := Lib.hid (below_blk b3 J2.out.drew J2.out.lt)
  clear B0 J2 b3
  go_wp2_with ((with_reducible refine at_store 4 10 ?_); refine wpList_store_arr rfl 24 (.tmp 4) (.tmp 10) rfl rfl (w.heap.size + 1 + 1) (bytesA (pairL a b)) rfl rfl 24 _ K3.out (sz_arr _ (sumL_len _)) (by rw [bytesA_size, bytesA_size]; simp [pairL, dblL, sumL_len]) (bytesA_one _) ?_; intro w5 o5 b5)
  exact bodyPost_ret (results_cell_row rfl _ _ (w.heap.size + 1 + 1) 24 _ (0, 0) _ rfl b5 Tryd.underlying24 rfl (sz_arr _ (sumL_len _))) rfl ⟨rfl, B3.trans (o5.below (by simp; omega))⟩
set_option maxRecDepth 100000 in
theorem sumL_empty : sumL [] = [0xe3, 0xb0, 0xc4, 0x42, 0x98, 0xfc, 0x1c, 0x14, 0x9a, 0xfb, 0xf4, 0xc8, 0x99, 0x6f, 0xb9, 0x24, 0x27, 0xae, 0x41, 0xe4, 0x64, 0x9b, 0x93, 0x4c, 0xa4, 0x95, 0x99, 0x1b, 0x78, 0x52, 0xb8, 0x55] := by decide +kernel
end Go.Proofs.YtfmidmhbnpincaaDoor
/- Plain: texts that are filled up are apart. No program is named here. -/
namespace Go.Proofs.YtfmidmhbnpincaaDoor
theorem padL_prefix (l : List UInt8) : (padL l).take l.length = l := by
  unfold padL padTo padHead; simp [List.append_assoc]
theorem padL_two (l : List UInt8) : padL l = padTo l 6 ++ [lenB l.length 6, lenB l.length 7] := by
  unfold padL; rw [padTo_succ l 7, padTo_succ l 6]; simp
theorem lenB_inj (n m : Nat) (hn : n ≤ 4096) (hm : m ≤ 4096) (h6 : lenB n 6 = lenB m 6) (h7 : lenB n 7 = lenB m 7) : n = m := by
  have a := congrArg UInt8.toNat h6
  have b := congrArg UInt8.toNat h7
  unfold lenB at a b
  rw [UInt8.toNat_ofNat', UInt8.toNat_ofNat'] at a b
  simp at a b
  omega
theorem padL_inj (l m : List UInt8) (hl : l.length ≤ 4096) (hm : m.length ≤ 4096) (h : padL l = padL m) : l = m := by
  have h' := h
  rw [padL_two, padL_two] at h'
  have h2 := (List.append_inj' h' rfl).2
  simp only [List.cons.injEq, and_true] at h2
  have hn := lenB_inj _ _ hl hm h2.1 h2.2
  rw [← padL_prefix l, ← padL_prefix m, h, hn]
theorem padL_len (l : List UInt8) : (padL l).length = l.length + 9 + padZ l.length := by
  have := padTo_len l 8; unfold padL; omega
end Go.Proofs.YtfmidmhbnpincaaDoor
