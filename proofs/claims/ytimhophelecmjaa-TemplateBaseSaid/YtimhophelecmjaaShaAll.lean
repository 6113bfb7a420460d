/- ShaAll: U32, ShaP, ShaQ, PadP, SumP, ShaA, ShaB, ShaC, ShaD, ShaE, ShaF, ShaG, PadQ, in one text. -/
import Derived.WalkKit
import Derived.Test.YtimhophelecmjaaGenA
import Derived.Lib.UnsafeStr
import Derived.Lib.AppendStr
import Derived.Test.YtimhophelecmjaaProg
import Derived.WalkSpells
import Derived.Deep.QuietTactic
import Derived.BigQuiet
import Derived.Lib.Hide
import Derived.StillTailTactics
import Derived.Deep.DeepCutAuto
import Derived.Deep.RegionHeld3
import Derived.Test.YtimhophelecmjaaBld
import Derived.Laws.IdiomStrings
import Derived.KernelRfl
/- Plain facts on 32-bit words: 'wv x' is the number that the model keeps for the word x. No program is named here. -/
namespace Go.Proofs.Ytimhophelecmjaa
open Go.RowKit
def wv (x : BitVec 32) : Int := x.toNat
theorem u32_lo (x : BitVec 32) : 0 ≤ wv x := Int.natCast_nonneg _
theorem u32_hi (x : BitVec 32) : wv x < 4294967296 := by have := x.isLt; unfold wv; omega
theorem u32_add (x y : BitVec 32) : (wv x + wv y) % 4294967296 = wv (x + y) := by
  rw [wv, wv, wv, BitVec.toNat_add]; omega
theorem u32_addw (x y : BitVec 32) : IntKind.u32.wrap (wv x + wv y) = wv (x + y) := by
  rw [IntKind.wrap_u32']; exact u32_add x y
theorem u32_add3 (x y z : BitVec 32) : (wv x + wv y + wv z) % 4294967296 = wv (x + y + z) := by rw [← u32_add, ← u32_add]; omega
theorem u32_add4 (x y z v : BitVec 32) : (wv x + wv y + wv z + wv v) % 4294967296 = wv (x + y + z + v) := by rw [← u32_add, ← u32_add, ← u32_add]; omega
theorem ofInt_u32' (x : BitVec 32) : BitVec.ofInt 32 (wv x) = x := by
  unfold wv; rw [BitVec.ofInt_natCast, BitVec.ofNat_toNat]; simp
theorem u32_back (x : BitVec 32) : IntKind.u32.wrap (x.toNat : Int) = wv x := by
  have := x.isLt; rw [IntKind.wrap_u32', wv]; omega
theorem u32_xor (x y : BitVec 32) : bits .xor .u32 (wv x) (wv y) = wv (x ^^^ y) := by
  show IntKind.u32.wrap ((BitVec.ofInt 32 (wv x) ^^^ BitVec.ofInt 32 (wv y)).toNat : Int) = _
  rw [ofInt_u32', ofInt_u32', u32_back]
theorem u32_and (x y : BitVec 32) : bits .and .u32 (wv x) (wv y) = wv (x &&& y) := by
  show IntKind.u32.wrap ((BitVec.ofInt 32 (wv x) &&& BitVec.ofInt 32 (wv y)).toNat : Int) = _
  rw [ofInt_u32', ofInt_u32', u32_back]
theorem u32_or (x y : BitVec 32) : bits .or .u32 (wv x) (wv y) = wv (x ||| y) := by
  show IntKind.u32.wrap ((BitVec.ofInt 32 (wv x) ||| BitVec.ofInt 32 (wv y)).toNat : Int) = _
  rw [ofInt_u32', ofInt_u32', u32_back]
theorem u32_not (x : BitVec 32) : bits .xor .u32 IntKind.u32.max (wv x) = wv (~~~ x) := by
  show IntKind.u32.wrap ((BitVec.ofInt 32 IntKind.u32.max ^^^ BitVec.ofInt 32 (wv x)).toNat : Int) = _
  rw [ofInt_u32', show BitVec.ofInt 32 IntKind.u32.max = BitVec.allOnes 32 from by decide, BitVec.allOnes_xor, u32_back]
theorem u32_not' (x : BitVec 32) : bits .xor .u32 4294967295 (wv x) = wv (~~~ x) := u32_not x
theorem u32_shr (x : BitVec 32) (n : Nat) : wv x / 2 ^ n = wv (x >>> n) := by
  unfold wv; rw [BitVec.toNat_ushiftRight, Nat.shiftRight_eq_div_pow]; simp
theorem u32_shl (x : BitVec 32) (n : Nat) : wv x * 2 ^ n % 4294967296 = wv (x <<< n) := by
  unfold wv; rw [BitVec.toNat_shiftLeft, Nat.shiftLeft_eq]; simp
def ror (x : BitVec 32) (n : Nat) : BitVec 32 := x <<< (32 - n) ||| x >>> n
theorem u64_neg_and (n : Nat) (h1 : 1 ≤ n) (h2 : n ≤ 31) : bits BinOp.and IntKind.u64 (IntKind.u64.wrap (-(n : Int))) 31 = 32 - (n : Int) := by
  rw [u64_and _ _ (by rw [IntKind.wrap_u64]; omega) (by rw [IntKind.wrap_u64]; omega) (by omega) (by omega), IntKind.wrap_u64,
    show ((31 : Int).toNat) = 31 from rfl, nat_mask5]
  omega
theorem ret_int {k : IntKind} {a b : Int} (h : a = b) : Ending.returned (.int k a) = .returned (.int k b) := by rw [h]
def byteW (b : UInt8) : BitVec 32 := BitVec.ofNat 32 b.toNat
theorem u32_byte (b : UInt8) : (b.toNat : Int) % 4294967296 = wv (byteW b) := by
  unfold wv byteW; rw [BitVec.toNat_ofNat]; omega
theorem u32_byte' (b : UInt8) : (b.toNat : Int) = wv (byteW b) := by
  have := b.toNat_lt; unfold wv byteW; rw [BitVec.toNat_ofNat]; omega
/-- the word that four bytes are -/
def beWord (a b c d : UInt8) : BitVec 32 := byteW a <<< 24 ||| byteW b <<< 16 ||| byteW c <<< 8 ||| byteW d
theorem beWord_eq (a b c d : UInt8) : bits BinOp.or IntKind.u32 (bits BinOp.or IntKind.u32 (bits BinOp.or IntKind.u32 ((a.toNat : Int) % 4294967296 * 16777216 % 4294967296)
    ((b.toNat : Int) % 4294967296 * 65536 % 4294967296)) ((c.toNat : Int) % 4294967296 * 256 % 4294967296)) ((d.toNat : Int) % 4294967296) = wv (beWord a b c d) := by
  rw [u32_byte, u32_byte, u32_byte, u32_byte, show (16777216 : Int) = 2 ^ 24 from rfl, show (65536 : Int) = 2 ^ 16 from rfl, show (256 : Int) = 2 ^ 8 from rfl,
    u32_shl, u32_shl, u32_shl, u32_or, u32_or, u32_or]; rfl
/-- the i-th word of bytes -/
def wordL (l : List UInt8) (i : Nat) : BitVec 32 := beWord (l.getD (4 * i) 0) (l.getD (4 * i + 1) 0) (l.getD (4 * i + 2) 0) (l.getD (4 * i + 3) 0)
theorem byte_getD (s : ByteArray) (k : Nat) (h : k < s.size) : s.data.toList.getD k 0 = s[k] := by
  have h' : k < s.data.size := h
  rw [List.getD_eq_getElem?_getD, Array.getElem?_toList, Array.getElem?_eq_getElem h']
  rfl
theorem extract_byte (s : ByteArray) (i j k : Nat) (h : k < (s.extract i j).size) : (s.extract i j)[k] = s.data.toList.getD (i + k) 0 := by
  have h1 := h; rw [ByteArray.size_extract] at h1
  rw [byte_getD s (i + k) (by omega)]
  exact ByteArray.getElem_extract ..
end Go.Proofs.Ytimhophelecmjaa
/- Plain: arrays of words as the model keeps them; one round of the hash; no program is named here. -/
namespace Go.Proofs.Ytimhophelecmjaa
open Go.RowKit
def uarr (n : Nat) (f : Nat → BitVec 32) : Array Value := ((List.range n).map fun j => Value.int .u32 (wv (f j))).toArray
def upd {α : Type} (f : Nat → α) (k : Nat) (x : α) : Nat → α := fun j => if j = k then x else f j
theorem uarr_get (n : Nat) (f : Nat → BitVec 32) (i : Nat) (h : i < n) : (uarr n f)[i]? = some (.int .u32 (wv (f i))) := by
  simp [uarr, h]
theorem uarr_size (n : Nat) (f : Nat → BitVec 32) : (uarr n f).size = n := by simp [uarr]
theorem uarr_one (n : Nat) (f : Nat → BitVec 32) : (uarr n f).all (·.oneCell') = true := by
  rw [Array.all_eq_true_iff_forall_mem]; intro x hx; simp only [uarr, List.mem_toArray, List.mem_map] at hx; obtain ⟨_, _, rfl⟩ := hx; rfl
theorem uarr_congr (n : Nat) (f g : Nat → BitVec 32) (h : ∀ i, i < n → f i = g i) : uarr n f = uarr n g := by
  unfold uarr; congr 1; apply List.map_congr_left; intro a ha; rw [h a (by simpa using ha)]
theorem uarr_set (n : Nat) (f : Nat → BitVec 32) (k : Nat) (x : BitVec 32) : (uarr n f).setIfInBounds k (.int .u32 (wv x)) = uarr n (upd f k x) := by
  apply Array.ext_getElem?
  intro i
  rw [Array.getElem?_setIfInBounds]
  by_cases hk : k = i
  · subst hk
    by_cases hl : k < n
    · rw [if_pos rfl, if_pos (by rw [uarr_size]; exact hl), uarr_get _ _ _ hl]; simp [upd]
    · simp [uarr, hl]
  · by_cases hl : i < n
    · rw [if_neg hk, uarr_get _ _ _ hl, uarr_get _ _ _ hl]; simp [upd, Ne.symm hk]
    · simp [uarr, hl, hk]
theorem u32_zero : wv 0 = 0 := rfl
def T1 (e f g h kc x : BitVec 32) : BitVec 32 := h + (ror e 6 ^^^ ror e 11 ^^^ ror e 25) + (e &&& f ^^^ ~~~e &&& g) + kc + x
def T2 (a b c : BitVec 32) : BitVec 32 := (ror a 2 ^^^ ror a 13 ^^^ ror a 22) + (a &&& b ^^^ a &&& c ^^^ b &&& c)
theorem T1_eq (e f g h kc x : BitVec 32) : h + (ror e 6 ^^^ ror e 11 ^^^ ror e 25) + (e &&& f ^^^ ~~~e &&& g) + kc + x = T1 e f g h kc x := rfl
theorem T2_eq (a b c : BitVec 32) : (ror a 2 ^^^ ror a 13 ^^^ ror a 22) + (a &&& b ^^^ a &&& c ^^^ b &&& c) = T2 a b c := rfl
def sg0 (x : BitVec 32) : BitVec 32 := ror x 7 ^^^ ror x 18 ^^^ x >>> 3
def sg1 (x : BitVec 32) : BitVec 32 := ror x 17 ^^^ ror x 19 ^^^ x >>> 10
/-- the i-th word of the schedule, from a ring of the sixteen before it -/
def sched (f : Nat → BitVec 32) (i : Nat) : BitVec 32 :=
  f (i % 16) + ((ror (f ((i - 15) % 16)) 7 ^^^ ror (f ((i - 15) % 16)) 18 ^^^ f ((i - 15) % 16) >>> 3) + f ((i - 7) % 16) + (ror (f ((i - 2) % 16)) 17 ^^^ ror (f ((i - 2) % 16)) 19 ^^^ f ((i - 2) % 16) >>> 10))
def ring (f : Nat → BitVec 32) (i : Nat) : Nat → BitVec 32 := if 16 ≤ i then upd f (i % 16) (sched f i) else f
/-- the state of a block's rounds: the ring of words, and the eight numbers -/
structure St where
  w : Nat → BitVec 32
  a : BitVec 32
  b : BitVec 32
  c : BitVec 32
  d : BitVec 32
  e : BitVec 32
  f : BitVec 32
  g : BitVec 32
  h : BitVec 32
def St.step (K : Nat → BitVec 32) (s : St) (i : Nat) : St :=
  { w := ring s.w i, a := T1 s.e s.f s.g s.h (K i) (ring s.w i (i % 16)) + T2 s.a s.b s.c, b := s.a, c := s.b, d := s.c,
    e := s.d + T1 s.e s.f s.g s.h (K i) (ring s.w i (i % 16)), f := s.e, g := s.f, h := s.g }
def St.run (K : Nat → BitVec 32) (s : St) : Nat → St
  | 0 => s
  | n + 1 => (St.run K s n).step K n
def St.ofHash (w h : Nat → BitVec 32) : St := { w := w, a := h 0, b := h 1, c := h 2, d := h 3, e := h 4, f := h 5, g := h 6, h := h 7 }
def St.out (s : St) (j : Nat) : BitVec 32 := match j with | 0 => s.a | 1 => s.b | 2 => s.c | 3 => s.d | 4 => s.e | 5 => s.f | 6 => s.g | 7 => s.h | _ => 0
/-- the hash h with a block's words w put to it -/
def compressF (K w h : Nat → BitVec 32) : Nat → BitVec 32 := fun j => h j + ((St.ofHash w h).run K 64).out j
end Go.Proofs.Ytimhophelecmjaa
/- Plain: the bytes of a hash. No program is named here. -/
namespace Go.Proofs.Ytimhophelecmjaa
open Go.RowKit
/-- byte j of a word, the highest first -/
def byteOf (x : BitVec 32) (j : Nat) : UInt8 := UInt8.ofNat (x >>> (24 - 8 * j)).toNat
theorem byteOf_eq (x : BitVec 32) (j : Nat) : wv (x >>> (24 - 8 * j)) % 256 = ((byteOf x j).toNat : Int) := by
  unfold wv byteOf; rw [UInt8.toNat_ofNat']; omega
/-- the 32 bytes of a hash -/
def hashBytes (h : Nat → BitVec 32) : List UInt8 := tab 32 fun j => byteOf (h (j / 4)) (j % 4)
end Go.Proofs.Ytimhophelecmjaa
/- Plain: what bytes are filled up to. No program is named here. -/
namespace Go.Proofs.Ytimhophelecmjaa
def padZ (n : Nat) : Nat := (119 - n % 64) % 64
def lenB (n i : Nat) : UInt8 := UInt8.ofNat (8 * n / 2 ^ (56 - 8 * i))
theorem lenB_eq (n i : Nat) : ((lenB n i).toNat : Int) = (8 * (n : Int)) / 2 ^ (56 - 8 * i) % 256 := by
  unfold lenB; rw [UInt8.toNat_ofNat']
  simp
def padHead (l : List UInt8) (k : Nat) : List UInt8 := l ++ [128] ++ List.replicate k 0
def padTo (l : List UInt8) (i : Nat) : List UInt8 := padHead l (padZ l.length) ++ (List.range i).map (lenB l.length)
def padL (l : List UInt8) : List UInt8 := padTo l 8
theorem padHead_succ (l : List UInt8) (k : Nat) : padHead l (k + 1) = padHead l k ++ [0] := by simp [padHead, List.replicate_succ']
theorem padTo_succ (l : List UInt8) (i : Nat) : padTo l (i + 1) = padTo l i ++ [lenB l.length i] := by simp [padTo, List.range_succ]
theorem padHead_len (l : List UInt8) (k : Nat) : (padHead l k).length = l.length + 1 + k := by simp [padHead]; omega
theorem padTo_len (l : List UInt8) (i : Nat) : (padTo l i).length = l.length + 1 + padZ l.length + i := by simp [padTo, padHead]; omega
theorem padZ_lt (n : Nat) : padZ n < 64 := Nat.mod_lt _ (by omega)
theorem padL_mod (l : List UInt8) : (padL l).length % 64 = 0 := by
  have := padTo_len l 8; unfold padL; unfold padZ at this; omega
theorem byteCells_snoc (l : List UInt8) (b : UInt8) (c : Int) (h : (b.toNat : Int) = c) : Lib.byteCells l ++ [.int .u8 c] = Lib.byteCells (l ++ [b]) := by
  subst h; simp [Lib.byteCells]
theorem byteCells_len (l : List UInt8) : (Lib.byteCells l).length = l.length := by simp [Lib.byteCells]
end Go.Proofs.Ytimhophelecmjaa
/- Plain: the hash of bytes. No program is named here. -/
namespace Go.Proofs.Ytimhophelecmjaa
def kList : List (BitVec 32) := [
  0x428a2f98, 0x71374491, 0xb5c0fbcf, 0xe9b5dba5, 0x3956c25b, 0x59f111f1, 0x923f82a4, 0xab1c5ed5,
  0xd807aa98, 0x12835b01, 0x243185be, 0x550c7dc3, 0x72be5d74, 0x80deb1fe, 0x9bdc06a7, 0xc19bf174,
  0xe49b69c1, 0xefbe4786, 0x0fc19dc6, 0x240ca1cc, 0x2de92c6f, 0x4a7484aa, 0x5cb0a9dc, 0x76f988da,
  0x983e5152, 0xa831c66d, 0xb00327c8, 0xbf597fc7, 0xc6e00bf3, 0xd5a79147, 0x06ca6351, 0x14292967,
  0x27b70a85, 0x2e1b2138, 0x4d2c6dfc, 0x53380d13, 0x650a7354, 0x766a0abb, 0x81c2c92e, 0x92722c85,
  0xa2bfe8a1, 0xa81a664b, 0xc24b8b70, 0xc76c51a3, 0xd192e819, 0xd6990624, 0xf40e3585, 0x106aa070,
  0x19a4c116, 0x1e376c08, 0x2748774c, 0x34b0bcb5, 0x391c0cb3, 0x4ed8aa4a, 0x5b9cca4f, 0x682e6ff3,
  0x748f82ee, 0x78a5636f, 0x84c87814, 0x8cc70208, 0x90befffa, 0xa4506ceb, 0xbef9a3f7, 0xc67178f2]
def hList : List (BitVec 32) := [0x6a09e667, 0xbb67ae85, 0x3c6ef372, 0xa54ff53a, 0x510e527f, 0x9b05688c, 0x1f83d9ab, 0x5be0cd19]
def kF (i : Nat) : BitVec 32 := kList.getD i 0
def hF (i : Nat) : BitVec 32 := hList.getD i 0
def blockL (p : List UInt8) (i : Nat) : List UInt8 := (p.drop (64 * i)).take 64
def hashN (p : List UInt8) : Nat → Nat → BitVec 32
  | 0 => hF
  | n + 1 => compressF kF (wordL (blockL p n)) (hashN p n)
/-- the hash of bytes that are filled up -/
def sumL (l : List UInt8) : List UInt8 := hashBytes (hashN (padL l) ((padL l).length / 64))
theorem sumL_len (l : List UInt8) : (sumL l).length = 32 := tab_len _ _
theorem extract_list (s : ByteArray) (i j : Nat) : (s.extract i j).data.toList = (s.data.toList.drop i).take (j - i) := by
  rw [ByteArray.data_extract, Array.toList_extract, List.extract_eq_drop_take', List.drop_take]
end Go.Proofs.Ytimhophelecmjaa
/- The leaves of sha: rotations, and the word at a place, each by a contract. -/
namespace Go.Proofs.Ytimhophelecmjaa
open Go.RowKit
set_option maxRecDepth 20000 in
set_option maxHeartbeats 400000 in
theorem refRot_any (x : BitVec 32) (n : Nat) (h1 : 1 ≤ n) (h2 : n ≤ 31) (w : World) :
    Calls Try.prog 30 #[.int .u32 (wv x), .int .i64 n] w fun e w' => e = .returned (.int .u32 (wv (ror x n))) ∧ ∃ n, w' = w.drewN n := by
  go_enter Try.func30, Try.ntmps30
  go_wp2
  go_quiet (fail)
  go_wp2
  go_ret
  exact ⟨ret_int (by rw [u32_shl, u32_shr, u32_or, BitVec.or_comm]; rfl), _, rfl⟩
end Go.Proofs.Ytimhophelecmjaa
/- One round of the hash: the closure over eight words and a schedule of sixteen words that goes round. -/
namespace Go.Proofs.Ytimhophelecmjaa
open Go.RowKit
attribute [local go_sem] u32_add u32_addw u32_add3 u32_add4 u32_xor u32_and u32_or u32_not u32_not'
theorem and15 (i : Nat) (hi : i < 64) : bits BinOp.and IntKind.i64 (i : Int) 15 = ((i % 16 : Nat) : Int) := by
  rw [show (15 : Int) = ((15 : Nat) : Int) from rfl, (bits_nat .i64 8 (by decide) (fun n h1 h2 => IntWalk.i64_in _ (by omega)) i 15 (by omega) (by omega)).1, nat_mask4]
theorem and15s (i k : Nat) (hi : i < 64) (hk : k ≤ i) : bits BinOp.and IntKind.i64 ((i : Int) - (k : Int)) 15 = (((i - k) % 16 : Nat) : Int) := by
  rw [show (i : Int) - (k : Int) = ((i - k : Nat) : Int) by omega]; exact and15 (i - k) (by omega)
end Go.Proofs.Ytimhophelecmjaa
/- One block put to the hash: sha.compress. -/
namespace Go.Proofs.Ytimhophelecmjaa
open Go.RowKit
theorem keep_alloc {w : World} {o : Obj} {a : Addr} {v : Value} (h : w.cell? a = some v) : (w.alloc o).cell? a = some v := by
  rw [World.cell?_alloc_lt w o a (World.block_lt_of_cell? w _ h)]; exact h
theorem s_alloc {w : World} {o : Obj} {a b c d : Addr} {x y z u : Value} (h : w.cell? a = some x ∧ w.cell? b = some y ∧ w.cell? c = some z ∧ w.cell? d = some u) :
    (w.alloc o).cell? a = some x ∧ (w.alloc o).cell? b = some y ∧ (w.alloc o).cell? c = some z ∧ (w.alloc o).cell? d = some u := ⟨keep_alloc h.1, keep_alloc h.2.1, keep_alloc h.2.2.1, keep_alloc h.2.2.2⟩
theorem s_drew {w : World} {a b c d : Addr} {x y z u : Value} (h : w.cell? a = some x ∧ w.cell? b = some y ∧ w.cell? c = some z ∧ w.cell? d = some u) :
    w.drew.cell? a = some x ∧ w.drew.cell? b = some y ∧ w.drew.cell? c = some z ∧ w.drew.cell? d = some u := h
end Go.Proofs.Ytimhophelecmjaa
/- sha.key: the hash's bytes. -/
namespace Go.Proofs.Ytimhophelecmjaa
open Go.RowKit
end Go.Proofs.Ytimhophelecmjaa
/- sha.Pad, by the Builder's contracts. -/
namespace Go.Proofs.Ytimhophelecmjaa
open Go.RowKit
end Go.Proofs.Ytimhophelecmjaa
/- sha.Sum, Double and Pair: the hash by its contracts' pieces. -/
namespace Go.Proofs.Ytimhophelecmjaa
open Go.RowKit
theorem uarr8 (f : Nat → BitVec 32) : uarr 8 f = #[.int .u32 (wv (f 0)), .int .u32 (wv (f 1)), .int .u32 (wv (f 2)), .int .u32 (wv (f 3)), .int .u32 (wv (f 4)), .int .u32 (wv (f 5)), .int .u32 (wv (f 6)), .int .u32 (wv (f 7))] := rfl
end Go.Proofs.Ytimhophelecmjaa
/- sha.Double and Pair; the statements' own 'shown'. -/
namespace Go.Proofs.Ytimhophelecmjaa
open Go.RowKit
theorem conv_key (W : World) (b : Nat) (t : TypeId) (l : List UInt8) (h : Blk W b t (bytesA l)) (hl : l.length = 32) :
    (convert 59 9 (.slice (some ⟨b, 0, none⟩) 32 32)).run Try.prog W = .ok (.string ⟨l.toArray⟩) W := by
  have := run_convert_bytes_back (P := Try.prog) W 59 9 5 ⟨b, 0, none⟩ 32 l Try.underlying59 Try.underlying5 Try.underlying9 (fun j hj => by
    rw [show (⟨b, 0, none⟩ : Addr).add j = ⟨b, j, none⟩ by unfold Addr.add; split <;> simp_all]
    exact (h.cell j).trans (bytesA_get l j hj))
  rw [hl] at this
  exact this
def dblL (l : List UInt8) : List UInt8 := sumL (sumL l)
theorem sz_arr (l : List UInt8) (h : l.length = 32) : (Try.prog.info? 24).map (·.size) = some (bytesA l).size := by rw [bytesA_size, h]; kernel_rfl
def pairL (a b : List UInt8) : List UInt8 := dblL (a ++ b)
theorem toArray_list (l : List UInt8) : (⟨l.toArray⟩ : ByteArray).data.toList = l := rfl
theorem string_add (a b : List UInt8) : (⟨a.toArray⟩ : ByteArray) ++ (⟨b.toArray⟩ : ByteArray) = ⟨(a ++ b).toArray⟩ := by
  apply ByteArray.ext
  rw [ByteArray.data_append]
  simp
set_option maxRecDepth 100000 in
theorem sumL_empty : sumL [] = [0xe3, 0xb0, 0xc4, 0x42, 0x98, 0xfc, 0x1c, 0x14, 0x9a, 0xfb, 0xf4, 0xc8, 0x99, 0x6f, 0xb9, 0x24, 0x27, 0xae, 0x41, 0xe4, 0x64, 0x9b, 0x93, 0x4c, 0xa4, 0x95, 0x99, 0x1b, 0x78, 0x52, 0xb8, 0x55] := by decide +kernel
end Go.Proofs.Ytimhophelecmjaa
/- Plain: texts that are filled up are apart. No program is named here. -/
namespace Go.Proofs.Ytimhophelecmjaa
theorem padL_prefix (l : List UInt8) : (padL l).take l.length = l := by
  unfold padL padTo padHead; simp [List.append_assoc]
theorem padL_two (l : List UInt8) : padL l = padTo l 6 ++ [lenB l.length 6, lenB l.length 7] := by
  unfold padL; rw [padTo_succ l 7, padTo_succ l 6]; simp
theorem lenB_inj (n m : Nat) (hn : n ≤ 4096) (hm : m ≤ 4096) (h6 : lenB n 6 = lenB m 6) (h7 : lenB n 7 = lenB m 7) : n = m := by
  have a := congrArg UInt8.toNat h6
  have b := congrArg UInt8.toNat h7
  unfold lenB at a b
  rw [UInt8.toNat_ofNat', UInt8.toNat_ofNat'] at a b
  simp at a b
  omega
theorem padL_inj (l m : List UInt8) (hl : l.length ≤ 4096) (hm : m.length ≤ 4096) (h : padL l = padL m) : l = m := by
  have h' := h
  rw [padL_two, padL_two] at h'
  have h2 := (List.append_inj' h' rfl).2
  simp only [List.cons.injEq, and_true] at h2
  have hn := lenB_inj _ _ hl hm h2.1 h2.2
  rw [← padL_prefix l, ← padL_prefix m, h, hn]
theorem padL_len (l : List UInt8) : (padL l).length = l.length + 9 + padZ l.length := by
  have := padTo_len l 8; unfold padL; omega
end Go.Proofs.Ytimhophelecmjaa
