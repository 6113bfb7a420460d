import Derived.Lib.AppendStr
import Derived.StillTailTactics
import Derived.Deep.DeepCutAuto
import Derived.Lib.BytesEntry
import Derived.Shelf.SlSorted.Search
import Derived.Shelf.SlSortCmp.WholeK
import Derived.Shelf.SlSortCmp.NoneTotal
import Derived.Shelf.SlicesE.Clone
import Derived.Shelf.SlicesQ.Index
import Derived.Laws.BitsAllLaws
import Derived.Test.YtnpmpeoojncjhaaGreatDoorProg
import Derived.Test.YtnpmpeoojncjhaaGreatDoorZQb
set_option maxRecDepth 100000
set_option maxHeartbeats 16000000
namespace Go.Proofs.YtnpmpeoojncjhaaGreatDoor
section
open Go.RowKit
def wv (x : BitVec 32) : Int := x.toNat
theorem mq (x y : BitVec 32) : (wv x + wv y) % 4294967296 = wv (x + y) := by
 rw [wv, wv, wv, BitVec.toNat_add]; omega
theorem jk (x y : BitVec 32) : IntKind.u32.wrap (wv x + wv y) = wv (x + y) := by
 rw [IntKind.wrap_u32']; exact mq x y
theorem Dr (x y z : BitVec 32) : (wv x + wv y + wv z) % 4294967296 = wv (x + y + z) := by rw [← mq, ← mq]; omega
theorem aaW (x y z v : BitVec 32) : (wv x + wv y + wv z + wv v) % 4294967296 = wv (x + y + z + v) := by rw [← mq, ← mq, ← mq]; omega
theorem jd (x : BitVec 32) : BitVec.ofInt 32 (wv x) = x := by
 unfold wv; rw [BitVec.ofInt_natCast, BitVec.ofNat_toNat]; simp
theorem tJ (x : BitVec 32) : IntKind.u32.wrap (x.toNat : Int) = wv x := by
 have := x.isLt; rw [IntKind.wrap_u32', wv]; omega
theorem u32_xor (x y : BitVec 32) : bits .xor .u32 (wv x) (wv y) = wv (x ^^^ y) := by
 show IntKind.u32.wrap ((BitVec.ofInt 32 (wv x) ^^^ BitVec.ofInt 32 (wv y)).toNat : Int) = _
 rw [jd, jd, tJ]
theorem u32_and (x y : BitVec 32) : bits .and .u32 (wv x) (wv y) = wv (x &&& y) := by
 show IntKind.u32.wrap ((BitVec.ofInt 32 (wv x) &&& BitVec.ofInt 32 (wv y)).toNat : Int) = _
 rw [jd, jd, tJ]
theorem u32_or (x y : BitVec 32) : bits .or .u32 (wv x) (wv y) = wv (x ||| y) := by
 show IntKind.u32.wrap ((BitVec.ofInt 32 (wv x) ||| BitVec.ofInt 32 (wv y)).toNat : Int) = _
 rw [jd, jd, tJ]
theorem BF (x : BitVec 32) : bits .xor .u32 IntKind.u32.max (wv x) = wv (~~~ x) := by
 show IntKind.u32.wrap ((BitVec.ofInt 32 IntKind.u32.max ^^^ BitVec.ofInt 32 (wv x)).toNat : Int) = _
 rw [jd, show BitVec.ofInt 32 IntKind.u32.max = BitVec.allOnes 32 from by decide, BitVec.allOnes_xor, tJ]
theorem aaV (x : BitVec 32) : bits .xor .u32 4294967295 (wv x) = wv (~~~ x) := BF x
theorem mh (x : BitVec 32) (n : Nat) : wv x / 2 ^ n = wv (x >>> n) := by
 unfold wv; rw [BitVec.toNat_ushiftRight, Nat.shiftRight_eq_div_pow]; simp
theorem tF (x : BitVec 32) (n : Nat) : wv x * 2 ^ n % 4294967296 = wv (x <<< n) := by
 unfold wv; rw [BitVec.toNat_shiftLeft, Nat.shiftLeft_eq]; simp
def jB (x : BitVec 32) (n : Nat) : BitVec 32 := x <<< (32 - n) ||| x >>> n
theorem Dp (n : Nat) (h1 : 1 ≤ n) (h2 : n ≤ 31) : bits BinOp.and IntKind.u64 (IntKind.u64.wrap (-(n : Int))) 31 = 32 - (n : Int) := by
 rw [u64_and _ _ (by rw [IntKind.wrap_u64]; omega) (by rw [IntKind.wrap_u64]; omega) (by omega) (by omega), IntKind.wrap_u64,
  show ((31 : Int).toNat) = 31 from rfl, nat_mask5]
 omega
theorem uk {k : IntKind} {a b : Int} (h : a = b) : Ending.returned (.int k a) = .returned (.int k b) := by rw [h]
def Bh (b : UInt8) : BitVec 32 := BitVec.ofNat 32 b.toNat
theorem tH (b : UInt8) : (b.toNat : Int) % 4294967296 = wv (Bh b) := by
 unfold wv Bh; rw [BitVec.toNat_ofNat]; omega
def CP (a b c d : UInt8) : BitVec 32 := Bh a <<< 24 ||| Bh b <<< 16 ||| Bh c <<< 8 ||| Bh d
theorem Bl (a b c d : UInt8) : bits BinOp.or IntKind.u32 (bits BinOp.or IntKind.u32 (bits BinOp.or IntKind.u32 ((a.toNat : Int) % 4294967296 * 16777216 % 4294967296)
 ((b.toNat : Int) % 4294967296 * 65536 % 4294967296)) ((c.toNat : Int) % 4294967296 * 256 % 4294967296)) ((d.toNat : Int) % 4294967296) = wv (CP a b c d) := by
 rw [tH, tH, tH, tH, show (16777216 : Int) = 2 ^ 24 from rfl, show (65536 : Int) = 2 ^ 16 from rfl, show (256 : Int) = 2 ^ 8 from rfl,
  tF, tF, tF, u32_or, u32_or, u32_or]; rfl
def dY (l : List UInt8) (i : Nat) : BitVec 32 := CP (l.getD (4 * i) 0) (l.getD (4 * i + 1) 0) (l.getD (4 * i + 2) 0) (l.getD (4 * i + 3) 0)
theorem nR (s : ByteArray) (k : Nat) (h : k < s.size) : s.data.toList.getD k 0 = s[k] := by
 have h' : k < s.data.size := h
 rw [List.getD_eq_getElem?_getD, Array.getElem?_toList, Array.getElem?_eq_getElem h']
 rfl
theorem Cs (s : ByteArray) (i j k : Nat) (h : k < (s.extract i j).size) : (s.extract i j)[k] = s.data.toList.getD (i + k) 0 := by
 have h1 := h; rw [ByteArray.size_extract] at h1
 rw [nR s (i + k) (by omega)]
 exact ByteArray.getElem_extract ..
end
section
open Go.RowKit
def bM (n : Nat) (f : Nat → BitVec 32) : Array Value := ((List.range n).map fun j => Value.int .u32 (wv (f j))).toArray
def upd {α : Type} (f : Nat → α) (k : Nat) (x : α) : Nat → α := fun j => if j = k then x else f j
theorem dD (n : Nat) (f : Nat → BitVec 32) (i : Nat) (h : i < n) : (bM n f)[i]? = some (.int .u32 (wv (f i))) := by
 simp [bM, h]
theorem bC (n : Nat) (f : Nat → BitVec 32) : (bM n f).size = n := by simp [bM]
theorem ji (n : Nat) (f : Nat → BitVec 32) : (bM n f).all (·.oneCell') = true := by
 rw [Array.all_eq_true_iff_forall_mem]; intro x hx; simp only [bM, List.mem_toArray, List.mem_map] at hx; obtain ⟨_, _, rfl⟩ := hx; rfl
theorem iC (n : Nat) (f g : Nat → BitVec 32) (h : ∀ i, i < n → f i = g i) : bM n f = bM n g := by
 unfold bM; congr 1; apply List.map_congr_left; intro a ha; rw [h a (by simpa using ha)]
theorem tC (n : Nat) (f : Nat → BitVec 32) (k : Nat) (x : BitVec 32) : (bM n f).setIfInBounds k (.int .u32 (wv x)) = bM n (upd f k x) := by
 apply Array.ext_getElem?
 intro i
 rw [Array.getElem?_setIfInBounds]
 by_cases hk : k = i
 ·subst hk
  by_cases hl : k < n
  ·rw [if_pos rfl, if_pos (by rw [bC]; exact hl), dD _ _ _ hl]; simp [upd]
  ·simp [bM, hl]
 ·by_cases hl : i < n
  ·rw [if_neg hk, dD _ _ _ hl, dD _ _ _ hl]; simp [upd, Ne.symm hk]
  ·simp [bM, hl, hk]
def T1 (e f g h kc x : BitVec 32) : BitVec 32 := h + (jB e 6 ^^^ jB e 11 ^^^ jB e 25) + (e &&& f ^^^ ~~~e &&& g) + kc + x
def T2 (a b c : BitVec 32) : BitVec 32 := (jB a 2 ^^^ jB a 13 ^^^ jB a 22) + (a &&& b ^^^ a &&& c ^^^ b &&& c)
theorem Yz (e f g h kc x : BitVec 32) : h + (jB e 6 ^^^ jB e 11 ^^^ jB e 25) + (e &&& f ^^^ ~~~e &&& g) + kc + x = T1 e f g h kc x := rfl
theorem Yy (a b c : BitVec 32) : (jB a 2 ^^^ jB a 13 ^^^ jB a 22) + (a &&& b ^^^ a &&& c ^^^ b &&& c) = T2 a b c := rfl
def Xl (x : BitVec 32) : BitVec 32 := jB x 7 ^^^ jB x 18 ^^^ x >>> 3
def Xk (x : BitVec 32) : BitVec 32 := jB x 17 ^^^ jB x 19 ^^^ x >>> 10
def sched (f : Nat → BitVec 32) (i : Nat) : BitVec 32 :=
 f (i % 16) + ((jB (f ((i - 15) % 16)) 7 ^^^ jB (f ((i - 15) % 16)) 18 ^^^ f ((i - 15) % 16) >>> 3) + f ((i - 7) % 16) + (jB (f ((i - 2) % 16)) 17 ^^^ jB (f ((i - 2) % 16)) 19 ^^^ f ((i - 2) % 16) >>> 10))
def ring (f : Nat → BitVec 32) (i : Nat) : Nat → BitVec 32 := if 16 ≤ i then upd f (i % 16) (sched f i) else f
structure St where
 w : Nat → BitVec 32
 a : BitVec 32
 b : BitVec 32
 c : BitVec 32
 d : BitVec 32
 e : BitVec 32
 f : BitVec 32
 g : BitVec 32
 h : BitVec 32
def St.step (K : Nat → BitVec 32) (s : St) (i : Nat) : St :=
 { w := ring s.w i, a := T1 s.e s.f s.g s.h (K i) (ring s.w i (i % 16)) + T2 s.a s.b s.c, b := s.a, c := s.b, d := s.c, e := s.d + T1 s.e s.f s.g s.h (K i) (ring s.w i (i % 16)), f := s.e, g := s.f, h := s.g }
def St.run (K : Nat → BitVec 32) (s : St) : Nat → St
 | 0 => s
 | n + 1 => (St.run K s n).step K n
def St.ofHash (w h : Nat → BitVec 32) : St := { w := w, a := h 0, b := h 1, c := h 2, d := h 3, e := h 4, f := h 5, g := h 6, h := h 7 }
def St.out (s : St) (j : Nat) : BitVec 32 := match j with | 0 => s.a | 1 => s.b | 2 => s.c | 3 => s.d | 4 => s.e | 5 => s.f | 6 => s.g | 7 => s.h | _ => 0
def dA (K w h : Nat → BitVec 32) : Nat → BitVec 32 := fun j => h j + ((St.ofHash w h).run K 64).out j
end
section
open Go.RowKit
def byteOf (x : BitVec 32) (j : Nat) : UInt8 := UInt8.ofNat (x >>> (24 - 8 * j)).toNat
theorem Bi (x : BitVec 32) (j : Nat) : wv (x >>> (24 - 8 * j)) % 256 = ((byteOf x j).toNat : Int) := by
 unfold wv byteOf; rw [UInt8.toNat_ofNat']; omega
def eY (h : Nat → BitVec 32) : List UInt8 := tab 32 fun j => byteOf (h (j / 4)) (j % 4)
end
section
def yw (n : Nat) : Nat := (119 - n % 64) % 64
def Kt (n i : Nat) : UInt8 := UInt8.ofNat (8 * n / 2 ^ (56 - 8 * i))
theorem IP (n i : Nat) : ((Kt n i).toNat : Int) = (8 * (n : Int)) / 2 ^ (56 - 8 * i) % 256 := by
 unfold Kt; rw [UInt8.toNat_ofNat']
 simp
def fJ (l : List UInt8) (k : Nat) : List UInt8 := l ++ [128] ++ List.replicate k 0
def mI (l : List UInt8) (i : Nat) : List UInt8 := fJ l (yw l.length) ++ (List.range i).map (Kt l.length)
def jo (l : List UInt8) : List UInt8 := mI l 8
theorem uu (l : List UInt8) (k : Nat) : fJ l (k + 1) = fJ l k ++ [0] := by simp [fJ, List.replicate_succ']
theorem yx (l : List UInt8) (i : Nat) : mI l (i + 1) = mI l i ++ [Kt l.length i] := by simp [mI, List.range_succ]
theorem Ee (l : List UInt8) (k : Nat) : (fJ l k).length = l.length + 1 + k := by simp [fJ]; omega
theorem qH (l : List UInt8) (i : Nat) : (mI l i).length = l.length + 1 + yw l.length + i := by simp [mI, fJ]; omega
theorem Ch (n : Nat) : yw n < 64 := Nat.mod_lt _ (by omega)
theorem Ed (l : List UInt8) : (jo l).length % 64 = 0 := by
 have := qH l 8; unfold jo; unfold yw at this; omega
theorem byteCells_snoc (l : List UInt8) (b : UInt8) (c : Int) (h : (b.toNat : Int) = c) : Lib.byteCells l ++ [.int .u8 c] = Lib.byteCells (l ++ [b]) := by
 subst h; simp [Lib.byteCells]
theorem nk (l : List UInt8) : (Lib.byteCells l).length = l.length := by simp [Lib.byteCells]
end
section
def UE : List (BitVec 32) := [
 0x428a2f98, 0x71374491, 0xb5c0fbcf, 0xe9b5dba5, 0x3956c25b, 0x59f111f1, 0x923f82a4, 0xab1c5ed5,
 0xd807aa98, 0x12835b01, 0x243185be, 0x550c7dc3, 0x72be5d74, 0x80deb1fe, 0x9bdc06a7, 0xc19bf174,
 0xe49b69c1, 0xefbe4786, 0x0fc19dc6, 0x240ca1cc, 0x2de92c6f, 0x4a7484aa, 0x5cb0a9dc, 0x76f988da,
 0x983e5152, 0xa831c66d, 0xb00327c8, 0xbf597fc7, 0xc6e00bf3, 0xd5a79147, 0x06ca6351, 0x14292967,
 0x27b70a85, 0x2e1b2138, 0x4d2c6dfc, 0x53380d13, 0x650a7354, 0x766a0abb, 0x81c2c92e, 0x92722c85,
 0xa2bfe8a1, 0xa81a664b, 0xc24b8b70, 0xc76c51a3, 0xd192e819, 0xd6990624, 0xf40e3585, 0x106aa070,
 0x19a4c116, 0x1e376c08, 0x2748774c, 0x34b0bcb5, 0x391c0cb3, 0x4ed8aa4a, 0x5b9cca4f, 0x682e6ff3,
 0x748f82ee, 0x78a5636f, 0x84c87814, 0x8cc70208, 0x90befffa, 0xa4506ceb, 0xbef9a3f7, 0xc67178f2]
def UJ : List (BitVec 32) := [0x6a09e667, 0xbb67ae85, 0x3c6ef372, 0xa54ff53a, 0x510e527f, 0x9b05688c, 0x1f83d9ab, 0x5be0cd19]
def kF (i : Nat) : BitVec 32 := UE.getD i 0
def hF (i : Nat) : BitVec 32 := UJ.getD i 0
def ql (p : List UInt8) (i : Nat) : List UInt8 := (p.drop (64 * i)).take 64
def jD (p : List UInt8) : Nat → Nat → BitVec 32
 | 0 => hF
 | n + 1 => dA kF (dY (ql p n)) (jD p n)
def lZ (l : List UInt8) : List UInt8 := eY (jD (jo l) ((jo l).length / 64))
theorem eO (l : List UInt8) : (lZ l).length = 32 := iJ _ _
theorem uM (s : ByteArray) (i j : Nat) : (s.extract i j).data.toList = (s.data.toList.drop i).take (j - i) := by
 rw [ByteArray.data_extract, Array.toList_extract, List.extract_eq_drop_take', List.drop_take]
end
section
open Go.RowKit
theorem uj (x : BitVec 32) (n : Nat) (h1 : 1 ≤ n) (h2 : n ≤ 31) (w : World) :
 Calls Tryz.prog 62 #[.int .u32 (wv x), .int .i64 n] w fun e w' => e = .returned (.int .u32 (wv (jB x n))) ∧ w = w' := by
 have hb := Dp n h1 h2
 go_enter Tryz.func62, Tryz.ntmps62
 go_wp2
 go_ret
 exact ⟨uk (by rw [tF, show 32 - (32 - n) = n from by omega, mh, u32_or]; rfl), rfl⟩
theorem qG (x : BitVec 32) (n : Int) (h1 : 1 ≤ n) (h2 : n ≤ 31) (w : World) :
 Calls Tryz.prog 62 #[.int .u32 (wv x), .int .i64 n] w fun e w' => e = .returned (.int .u32 (wv (jB x n.toNat))) ∧ w' = w := by
 obtain ⟨k, rfl⟩ := Int.eq_ofNat_of_zero_le (show 0 ≤ n by omega)
 exact (uj x k (by omega) (by omega) w).mono fun _ _ h => ⟨h.1, h.2.symm⟩
theorem KY (x : BitVec 32) (w : World) :
 Calls Tryz.prog 60 #[.int .u32 (wv x)] w fun e w' => e = .returned (.int .u32 (wv (jB x 7 ^^^ jB x 18 ^^^ x >>> 3))) ∧ w = w' := by
 go_enter Tryz.func60, Tryz.ntmps60
 go_wp2_with fail
 refine (uj x 7 (by omega) (by omega) _).mono ?_
 rintro e w' ⟨rfl, rfl⟩
 go_wp2_with fail
 refine (uj x 18 (by omega) (by omega) _).mono ?_
 rintro e w' ⟨rfl, rfl⟩
 go_wp2
 go_ret
 exact ⟨uk (by rw [u32_xor]; rw [show (8 : Int) = 2 ^ 3 from rfl, mh, u32_xor]), rfl⟩
theorem OZ (x : BitVec 32) (w : World) :
 Calls Tryz.prog 61 #[.int .u32 (wv x)] w fun e w' => e = .returned (.int .u32 (wv (jB x 17 ^^^ jB x 19 ^^^ x >>> 10))) ∧ w = w' := by
 go_enter Tryz.func61, Tryz.ntmps61
 go_wp2_with fail
 refine (uj x 17 (by omega) (by omega) _).mono ?_
 rintro e w' ⟨rfl, rfl⟩
 go_wp2_with fail
 refine (uj x 19 (by omega) (by omega) _).mono ?_
 rintro e w' ⟨rfl, rfl⟩
 go_wp2
 go_ret
 exact ⟨uk (by rw [u32_xor]; rw [show (1024 : Int) = 2 ^ 10 from rfl, mh, u32_xor]), rfl⟩
theorem Md (s : ByteArray) (i : Nat) (hs : 4 * i + 4 ≤ s.size) (hm : s.size ≤ 1000000) (w : World) :
 Calls Tryz.prog 58 #[.string s, .int .i64 i] w fun e w' => e = .returned (.int .u32 (wv (dY s.data.toList i))) ∧ ∃ n, w' = w.drewN n := by
 go_enter Tryz.func58, Tryz.ntmps58
 go_wp2
 have h4 : (s.extract (4 * i) (4 * i + 4)).size = 4 := by rw [ByteArray.size_extract]; omega
 have hb := Cs s (4 * i) (4 * i + 4)
 generalize s.extract (4 * i) (4 * i + 4) = t at *
 have Vz : (0:Int) < t.size := by omega
 have h41 : (1:Int) < t.size := by omega
 have h42 : (2:Int) < t.size := by omega
 have h43 : (3:Int) < t.size := by omega
 have e0 := qh (hb 0 (by omega))
 have e1 := qh (hb 1 (by omega))
 have e2 := qh (hb 2 (by omega))
 have e3 := qh (hb 3 (by omega))
 clear hb
 go_quiet (fail)
 go_wp2
 go_ret
 exact ⟨uk (by rw [Bl, e0.out, e1.out, e2.out, e3.out]; rfl), _, rfl⟩
theorem lI (x : BitVec 32) (n : Nat) (h1 : 1 ≤ n) (h2 : n ≤ 31) (w : World) :
 Calls Tryz.prog 164 #[.int .u32 (wv x), .int .i64 n] w fun e w' => e = .returned (.int .u32 (wv (jB x n))) ∧ ∃ n, w' = w.drewN n := by
 go_enter Tryz.func164, Tryz.ntmps164
 go_wp2
 go_quiet (fail)
 go_wp2
 go_ret
 exact ⟨uk (by rw [tF, mh, u32_or, BitVec.or_comm]; rfl), _, rfl⟩
end
section
open Go.RowKit
attribute [local go_sem] mq jk Dr aaW u32_xor u32_and u32_or BF aaV
theorem Qt (i : Nat) (hi : i < 64) : bits BinOp.and IntKind.i64 (i : Int) 15 = ((i % 16 : Nat) : Int) := by
 rw [show (15 : Int) = ((15 : Nat) : Int) from rfl, (bits_nat .i64 8 (by decide) (fun n h1 h2 => IntWalk.i64_in _ (by omega)) i 15 (by omega) (by omega)).1, nat_mask4]
theorem Ie (i k : Nat) (hi : i < 64) (hk : k ≤ i) : bits BinOp.and IntKind.i64 ((i : Int) - (k : Int)) 15 = (((i - k) % 16 : Nat) : Int) := by
 rw [show (i : Int) - (k : Int) = ((i - k : Nat) : Int) by omega]; exact Qt (i - k) (by omega)
theorem MP (pw ph pe pf pg pa pb pc pd : Nat) (i : Nat) (hi : i < 16) (fw : Nat → BitVec 32) (kc a b c d e f g h : BitVec 32) (w : World)
 (hK : w.cell? ⟨1, i, none⟩ = some (.int .u32 (wv kc))) (_hgl : 1 < pw) (hw : ax w pw 122 (bM 16 fw))
 (hA : ax w pa 24 #[.int .u32 (wv a)]) (hB : ax w pb 24 #[.int .u32 (wv b)]) (hC : ax w pc 24 #[.int .u32 (wv c)]) (hD : ax w pd 24 #[.int .u32 (wv d)]) (hE : ax w pe 24 #[.int .u32 (wv e)]) (hF : ax w pf 24 #[.int .u32 (wv f)]) (hG : ax w pg 24 #[.int .u32 (wv g)]) (hH : ax w ph 24 #[.int .u32 (wv h)])
 (hp : [pa, pb, pc, pd, pe, pf, pg, ph].Nodup) :
 Calls Tryz.prog 59 #[.int .i64 i, .pointer (some ⟨pw, 0, none⟩), .pointer (some ⟨ph, 0, none⟩), .pointer (some ⟨pe, 0, none⟩), .pointer (some ⟨pf, 0, none⟩), .pointer (some ⟨pg, 0, none⟩), .pointer (some ⟨pa, 0, none⟩), .pointer (some ⟨pb, 0, none⟩), .pointer (some ⟨pc, 0, none⟩), .pointer (some ⟨pd, 0, none⟩)] w
  fun ee w' => ee = .returned (.tuple #[]) ∧ Only [pw, pa, pb, pc, pd, pe, pf, pg, ph] w w' ∧ ax w' pw 122 (bM 16 (ring fw i)) ∧
   ax w' pa 24 #[.int .u32 (wv (T1 e f g h kc (ring fw i (i % 16)) + T2 a b c))] ∧ ax w' pb 24 #[.int .u32 (wv a)] ∧ ax w' pc 24 #[.int .u32 (wv b)] ∧ ax w' pd 24 #[.int .u32 (wv c)] ∧
   ax w' pe 24 #[.int .u32 (wv (d + T1 e f g h kc (ring fw i (i % 16))))] ∧ ax w' pf 24 #[.int .u32 (wv e)] ∧ ax w' pg 24 #[.int .u32 (wv f)] ∧ ax w' ph 24 #[.int .u32 (wv g)] := by
 have hr : ring fw i = fw := by unfold ring; rw [if_neg (by omega)]
 have hm : bits BinOp.and IntKind.i64 (i : Int) 15 = i := by rw [Qt i (by omega), Nat.mod_eq_of_lt hi]
 have hx : w.cell? ⟨pw, i, none⟩ = _ := (hw.cell _).trans (dD 16 fw _ hi)
 rw [hr, Nat.mod_eq_of_lt hi]
 clear hr
 have Ou := qh (show ¬ pb = pa by intro e; simp [e] at hp)
 have Ot := qh (show ¬ pc = pa by intro e; simp [e] at hp)
 have Oq := qh (show ¬ pd = pa by intro e; simp [e] at hp)
 have Oo := qh (show ¬ pe = pa by intro e; simp [e] at hp)
 have Om := qh (show ¬ pf = pa by intro e; simp [e] at hp)
 have Ol := qh (show ¬ pg = pa by intro e; simp [e] at hp)
 have Oj := qh (show ¬ ph = pa by intro e; simp [e] at hp)
 have Oi := qh (show ¬ pc = pb by intro e; simp [e] at hp)
 have Oh := qh (show ¬ pd = pb by intro e; simp [e] at hp)
 have Og := qh (show ¬ pe = pb by intro e; simp [e] at hp)
 have Oe := qh (show ¬ pf = pb by intro e; simp [e] at hp)
 have Od := qh (show ¬ pg = pb by intro e; simp [e] at hp)
 have Oc := qh (show ¬ ph = pb by intro e; simp [e] at hp)
 have Ob := qh (show ¬ pd = pc by intro e; simp [e] at hp)
 have Oa := qh (show ¬ pe = pc by intro e; simp [e] at hp)
 have N9 := qh (show ¬ pf = pc by intro e; simp [e] at hp)
 have N8 := qh (show ¬ pg = pc by intro e; simp [e] at hp)
 have N7 := qh (show ¬ ph = pc by intro e; simp [e] at hp)
 have NZ := qh (show ¬ pe = pd by intro e; simp [e] at hp)
 have NY := qh (show ¬ pf = pd by intro e; simp [e] at hp)
 have NV := qh (show ¬ pg = pd by intro e; simp [e] at hp)
 have NU := qh (show ¬ ph = pd by intro e; simp [e] at hp)
 have NT := qh (show ¬ pf = pe by intro e; simp [e] at hp)
 have NS := qh (show ¬ pg = pe by intro e; simp [e] at hp)
 have NR := qh (show ¬ ph = pe by intro e; simp [e] at hp)
 have NQ := qh (show ¬ pg = pf by intro e; simp [e] at hp)
 have NP := qh (show ¬ ph = pf by intro e; simp [e] at hp)
 have NM := qh (show ¬ ph = pg by intro e; simp [e] at hp)
 have Zx := qh (hw.wU hA (by decide))
 have Zv := qh (hw.wU hB (by decide))
 have Zu := qh (hw.wU hC (by decide))
 have Zq := qh (hw.wU hD (by decide))
 have Zo := qh (hw.wU hE (by decide))
 have Zm := qh (hw.wU hF (by decide))
 have Zl := qh (hw.wU hG (by decide))
 have Zj := qh (hw.wU hH (by decide))
 clear hp
 have HA := qh hA
 have HB := qh hB
 have HC := qh hC
 have HD := qh hD
 have HE := qh hE
 have HF := qh hF
 have HG := qh hG
 have HH := qh hH
 have HW := qh hw
 clear hw hA hB hC hD hE hF hG hH
 have cA : w.cell? ⟨pa, 0, none⟩ = some (.int .u32 (wv a)) := HA.out.cell 0
 have cB : w.cell? ⟨pb, 0, none⟩ = some (.int .u32 (wv b)) := HB.out.cell 0
 have cC : w.cell? ⟨pc, 0, none⟩ = some (.int .u32 (wv c)) := HC.out.cell 0
 have cD : w.cell? ⟨pd, 0, none⟩ = some (.int .u32 (wv d)) := HD.out.cell 0
 have cE : w.cell? ⟨pe, 0, none⟩ = some (.int .u32 (wv e)) := HE.out.cell 0
 have cF : w.cell? ⟨pf, 0, none⟩ = some (.int .u32 (wv f)) := HF.out.cell 0
 have cG : w.cell? ⟨pg, 0, none⟩ = some (.int .u32 (wv g)) := HG.out.cell 0
 have cH : w.cell? ⟨ph, 0, none⟩ = some (.int .u32 (wv h)) := HH.out.cell 0
 have O0 := qh (Only.refl [pw] w)
 have hi1 := qh (show (Tryz.prog.info? 24).map (·.size) = some 1 by kernel_rfl)
 go_enter Tryz.func59, Tryz.ntmps59
 go_wp2_with fail
 go_quiet ((go_at_call 62; exact Calls.quiet_of_same (qG _ _ (by omega) (by omega) _)))
 simp only [show IntKind.u32.signed = false from rfl, if_false, Bool.false_eq_true, BF, u32_and, u32_xor, Dr, mq, Yz]
 generalize hW : World.drewN _ _ = W0
 replace cA : W0.cell? ⟨pa, 0, none⟩ = some (.int .u32 (wv a)) := by rw [← hW]; exact cA
 replace cB : W0.cell? ⟨pb, 0, none⟩ = some (.int .u32 (wv b)) := by rw [← hW]; exact cB
 replace cC : W0.cell? ⟨pc, 0, none⟩ = some (.int .u32 (wv c)) := by rw [← hW]; exact cC
 replace cD : W0.cell? ⟨pd, 0, none⟩ = some (.int .u32 (wv d)) := by rw [← hW]; exact cD
 replace cE : W0.cell? ⟨pe, 0, none⟩ = some (.int .u32 (wv e)) := by rw [← hW]; exact cE
 replace cF : W0.cell? ⟨pf, 0, none⟩ = some (.int .u32 (wv f)) := by rw [← hW]; exact cF
 replace cG : W0.cell? ⟨pg, 0, none⟩ = some (.int .u32 (wv g)) := by rw [← hW]; exact cG
 replace cH : W0.cell? ⟨ph, 0, none⟩ = some (.int .u32 (wv h)) := by rw [← hW]; exact cH
 replace HA : Hid (ax W0 pa 24 #[.int .u32 (wv a)]) := by rw [← hW]; exact HA.out
 replace HB : Hid (ax W0 pb 24 #[.int .u32 (wv b)]) := by rw [← hW]; exact HB.out
 replace HC : Hid (ax W0 pc 24 #[.int .u32 (wv c)]) := by rw [← hW]; exact HC.out
 replace HD : Hid (ax W0 pd 24 #[.int .u32 (wv d)]) := by rw [← hW]; exact HD.out
 replace HE : Hid (ax W0 pe 24 #[.int .u32 (wv e)]) := by rw [← hW]; exact HE.out
 replace HF : Hid (ax W0 pf 24 #[.int .u32 (wv f)]) := by rw [← hW]; exact HF.out
 replace HG : Hid (ax W0 pg 24 #[.int .u32 (wv g)]) := by rw [← hW]; exact HG.out
 replace HH : Hid (ax W0 ph 24 #[.int .u32 (wv h)]) := by rw [← hW]; exact HH.out
 replace HW : Hid (ax W0 pw 122 (bM 16 fw)) := by rw [← hW]; exact HW.out
 replace O0 := qh (show Only [pw] w W0 by rw [← hW]; exact O0.out.drewN _)
 clear hW hK hx
 go_wp2_with fail
 go_quiet ((go_at_call 62; exact Calls.quiet_of_same (qG _ _ (by omega) (by omega) _)))
 simp only [Yy]
 generalize hW : W0.drewN _ = W
 replace cA : W.cell? ⟨pa, 0, none⟩ = some (.int .u32 (wv a)) := by rw [← hW]; exact cA
 replace cB : W.cell? ⟨pb, 0, none⟩ = some (.int .u32 (wv b)) := by rw [← hW]; exact cB
 replace cC : W.cell? ⟨pc, 0, none⟩ = some (.int .u32 (wv c)) := by rw [← hW]; exact cC
 replace cD : W.cell? ⟨pd, 0, none⟩ = some (.int .u32 (wv d)) := by rw [← hW]; exact cD
 replace cE : W.cell? ⟨pe, 0, none⟩ = some (.int .u32 (wv e)) := by rw [← hW]; exact cE
 replace cF : W.cell? ⟨pf, 0, none⟩ = some (.int .u32 (wv f)) := by rw [← hW]; exact cF
 replace cG : W.cell? ⟨pg, 0, none⟩ = some (.int .u32 (wv g)) := by rw [← hW]; exact cG
 replace cH : W.cell? ⟨ph, 0, none⟩ = some (.int .u32 (wv h)) := by rw [← hW]; exact cH
 replace HA : Hid (ax W pa 24 #[.int .u32 (wv a)]) := by rw [← hW]; exact HA.out
 replace HB : Hid (ax W pb 24 #[.int .u32 (wv b)]) := by rw [← hW]; exact HB.out
 replace HC : Hid (ax W pc 24 #[.int .u32 (wv c)]) := by rw [← hW]; exact HC.out
 replace HD : Hid (ax W pd 24 #[.int .u32 (wv d)]) := by rw [← hW]; exact HD.out
 replace HE : Hid (ax W pe 24 #[.int .u32 (wv e)]) := by rw [← hW]; exact HE.out
 replace HF : Hid (ax W pf 24 #[.int .u32 (wv f)]) := by rw [← hW]; exact HF.out
 replace HG : Hid (ax W pg 24 #[.int .u32 (wv g)]) := by rw [← hW]; exact HG.out
 replace HH : Hid (ax W ph 24 #[.int .u32 (wv h)]) := by rw [← hW]; exact HH.out
 replace HW : Hid (ax W pw 122 (bM 16 fw)) := by rw [← hW]; exact HW.out
 replace O0 := qh (show Only [pw] w W by rw [← hW]; exact O0.out.drewN _)
 clear hW
 go_wp2_with (first
  | ((with_reducible refine ag 6 90 ?_); refine aF rfl 24 (.tmp 6) (.tmp 90) rfl rfl pa (.int .u32 (wv (T1 e f g h kc (fw i) + T2 a b c))) rfl rfl rfl 24 _ HA.out hi1.out ?_; intro w1 o1 b1; clear cA cB cC cD cE cF cG cH)
  | ((with_reducible refine ag 7 91 ?_); refine aF rfl 24 (.tmp 7) (.tmp 91) rfl rfl pb (.int .u32 (wv a)) rfl rfl rfl 24 _ (o1.blk HB.out (by simpa using Ou.out)) hi1.out ?_; intro w2 o2 b2)
  | ((with_reducible refine ag 8 92 ?_); refine aF rfl 24 (.tmp 8) (.tmp 92) rfl rfl pc (.int .u32 (wv b)) rfl rfl rfl 24 _ (o2.blk (o1.blk HC.out (by simpa using Ot.out)) (by simpa using Oi.out)) hi1.out ?_; intro w3 o3 b3)
  | ((with_reducible refine ag 9 93 ?_); refine aF rfl 24 (.tmp 9) (.tmp 93) rfl rfl pd (.int .u32 (wv c)) rfl rfl rfl 24 _ (o3.blk (o2.blk (o1.blk HD.out (by simpa using Oq.out)) (by simpa using Oh.out)) (by simpa using Ob.out)) hi1.out ?_; intro w4 o4 b4)
  | ((with_reducible refine ag 3 96 ?_); refine aF rfl 24 (.tmp 3) (.tmp 96) rfl rfl pe (.int .u32 (wv (d + T1 e f g h kc (fw i)))) rfl rfl rfl 24 _ (o4.blk (o3.blk (o2.blk (o1.blk HE.out (by simpa using Oo.out)) (by simpa using Og.out)) (by simpa using Oa.out)) (by simpa using NZ.out)) hi1.out ?_; intro w5 o5 b5)
  | ((with_reducible refine ag 4 97 ?_); refine aF rfl 24 (.tmp 4) (.tmp 97) rfl rfl pf (.int .u32 (wv e)) rfl rfl rfl 24 _ (o5.blk (o4.blk (o3.blk (o2.blk (o1.blk HF.out (by simpa using Om.out)) (by simpa using Oe.out)) (by simpa using N9.out)) (by simpa using NY.out)) (by simpa using NT.out)) hi1.out ?_; intro w6 o6 b6)
  | ((with_reducible refine ag 5 98 ?_); refine aF rfl 24 (.tmp 5) (.tmp 98) rfl rfl pg (.int .u32 (wv f)) rfl rfl rfl 24 _ (o6.blk (o5.blk (o4.blk (o3.blk (o2.blk (o1.blk HG.out (by simpa using Ol.out)) (by simpa using Od.out)) (by simpa using N8.out)) (by simpa using NV.out)) (by simpa using NS.out)) (by simpa using NQ.out)) hi1.out ?_; intro w7 o7 b7)
  | ((with_reducible refine ag 2 99 ?_); refine aF rfl 24 (.tmp 2) (.tmp 99) rfl rfl ph (.int .u32 (wv g)) rfl rfl rfl 24 _ (o7.blk (o6.blk (o5.blk (o4.blk (o3.blk (o2.blk (o1.blk HH.out (by simpa using Oj.out)) (by simpa using Oc.out)) (by simpa using N7.out)) (by simpa using NU.out)) (by simpa using NR.out)) (by simpa using NP.out)) (by simpa using NM.out)) hi1.out ?_; intro w8 o8 b8)
 )
 go_end0
 have OO : Only [pw, pa, pb, pc, pd, pe, pf, pg, ph] w w8 := (((((((((O0.out.mono (by simp)).trans (o1.mono (by simp))).trans (o2.mono (by simp))).trans (o3.mono (by simp))).trans (o4.mono (by simp))).trans (o5.mono (by simp))).trans (o6.mono (by simp))).trans (o7.mono (by simp))).trans (o8.mono (by simp)))
 have BW : ax w8 pw 122 (bM 16 fw) := (o8.blk (o7.blk (o6.blk (o5.blk (o4.blk (o3.blk (o2.blk (o1.blk HW.out (by simpa using Zx.out)) (by simpa using Zv.out)) (by simpa using Zu.out)) (by simpa using Zq.out)) (by simpa using Zo.out)) (by simpa using Zm.out)) (by simpa using Zl.out)) (by simpa using Zj.out))
 exact ⟨rfl, OO, BW, (o8.blk (o7.blk (o6.blk (o5.blk (o4.blk (o3.blk (o2.blk b1 (by simpa using fun e => Ou.out e.symm)) (by simpa using fun e => Ot.out e.symm)) (by simpa using fun e => Oq.out e.symm)) (by simpa using fun e => Oo.out e.symm)) (by simpa using fun e => Om.out e.symm)) (by simpa using fun e => Ol.out e.symm)) (by simpa using fun e => Oj.out e.symm)), (o8.blk (o7.blk (o6.blk (o5.blk (o4.blk (o3.blk b2 (by simpa using fun e => Oi.out e.symm)) (by simpa using fun e => Oh.out e.symm)) (by simpa using fun e => Og.out e.symm)) (by simpa using fun e => Oe.out e.symm)) (by simpa using fun e => Od.out e.symm)) (by simpa using fun e => Oc.out e.symm)), (o8.blk (o7.blk (o6.blk (o5.blk (o4.blk b3 (by simpa using fun e => Ob.out e.symm)) (by simpa using fun e => Oa.out e.symm)) (by simpa using fun e => N9.out e.symm)) (by simpa using fun e => N8.out e.symm)) (by simpa using fun e => N7.out e.symm)), (o8.blk (o7.blk (o6.blk (o5.blk b4 (by simpa using fun e => NZ.out e.symm)) (by simpa using fun e => NY.out e.symm)) (by simpa using fun e => NV.out e.symm)) (by simpa using fun e => NU.out e.symm)), (o8.blk (o7.blk (o6.blk b5 (by simpa using fun e => NT.out e.symm)) (by simpa using fun e => NS.out e.symm)) (by simpa using fun e => NR.out e.symm)), (o8.blk (o7.blk b6 (by simpa using fun e => NQ.out e.symm)) (by simpa using fun e => NP.out e.symm)), (o8.blk b7 (by simpa using fun e => NM.out e.symm)), b8⟩
theorem MQ (pw ph pe pf pg pa pb pc pd : Nat) (i : Nat) (h16 : 16 ≤ i) (hi : i < 64) (fw : Nat → BitVec 32) (kc a b c d e f g h : BitVec 32) (w : World)
 (hK : w.cell? ⟨1, i, none⟩ = some (.int .u32 (wv kc))) (hgl : 1 < pw) (hw : ax w pw 122 (bM 16 fw))
 (hA : ax w pa 24 #[.int .u32 (wv a)]) (hB : ax w pb 24 #[.int .u32 (wv b)]) (hC : ax w pc 24 #[.int .u32 (wv c)]) (hD : ax w pd 24 #[.int .u32 (wv d)]) (hE : ax w pe 24 #[.int .u32 (wv e)]) (hF : ax w pf 24 #[.int .u32 (wv f)]) (hG : ax w pg 24 #[.int .u32 (wv g)]) (hH : ax w ph 24 #[.int .u32 (wv h)])
 (hp : [pa, pb, pc, pd, pe, pf, pg, ph].Nodup) :
 Calls Tryz.prog 59 #[.int .i64 i, .pointer (some ⟨pw, 0, none⟩), .pointer (some ⟨ph, 0, none⟩), .pointer (some ⟨pe, 0, none⟩), .pointer (some ⟨pf, 0, none⟩), .pointer (some ⟨pg, 0, none⟩), .pointer (some ⟨pa, 0, none⟩), .pointer (some ⟨pb, 0, none⟩), .pointer (some ⟨pc, 0, none⟩), .pointer (some ⟨pd, 0, none⟩)] w
  fun ee w' => ee = .returned (.tuple #[]) ∧ Only [pw, pa, pb, pc, pd, pe, pf, pg, ph] w w' ∧ ax w' pw 122 (bM 16 (ring fw i)) ∧
   ax w' pa 24 #[.int .u32 (wv (T1 e f g h kc (ring fw i (i % 16)) + T2 a b c))] ∧ ax w' pb 24 #[.int .u32 (wv a)] ∧ ax w' pc 24 #[.int .u32 (wv b)] ∧ ax w' pd 24 #[.int .u32 (wv c)] ∧
   ax w' pe 24 #[.int .u32 (wv (d + T1 e f g h kc (ring fw i (i % 16))))] ∧ ax w' pf 24 #[.int .u32 (wv e)] ∧ ax w' pg 24 #[.int .u32 (wv f)] ∧ ax w' ph 24 #[.int .u32 (wv g)] := by
 have aaS : bits BinOp.and IntKind.i64 (IntKind.i64.wrap ((i : Int) - 15)) 15 = (((i - 15) % 16 : Nat) : Int) := by rw [IntWalk.i64_in _ (by omega)]; exact Ie i 15 hi (by omega)
 have hm7 : bits BinOp.and IntKind.i64 (IntKind.i64.wrap ((i : Int) - 7)) 15 = (((i - 7) % 16 : Nat) : Int) := by rw [IntWalk.i64_in _ (by omega)]; exact Ie i 7 hi (by omega)
 have hm2 : bits BinOp.and IntKind.i64 (IntKind.i64.wrap ((i : Int) - 2)) 15 = (((i - 2) % 16 : Nat) : Int) := by rw [IntWalk.i64_in _ (by omega)]; exact Ie i 2 hi (by omega)
 have z15 : (i - 15) % 16 < 16 := Nat.mod_lt _ (by omega)
 have c15 : w.cell? ⟨pw, (i - 15) % 16, none⟩ = _ := (hw.cell _).trans (dD 16 fw _ z15)
 have z7 : (i - 7) % 16 < 16 := Nat.mod_lt _ (by omega)
 have c7 : w.cell? ⟨pw, (i - 7) % 16, none⟩ = _ := (hw.cell _).trans (dD 16 fw _ z7)
 have z2 : (i - 2) % 16 < 16 := Nat.mod_lt _ (by omega)
 have c2 : w.cell? ⟨pw, (i - 2) % 16, none⟩ = _ := (hw.cell _).trans (dD 16 fw _ z2)
 have hm := Qt i hi
 have z0 : i % 16 < 16 := Nat.mod_lt _ (by omega)
 have c0 : w.cell? ⟨pw, i % 16, none⟩ = _ := (hw.cell _).trans (dD 16 fw _ z0)
 have f0 : w.frozen? ⟨pw, i % 16, none⟩ = false := hw.frozen _
 have hr : ring fw i = upd fw (i % 16) (sched fw i) := by unfold ring; rw [if_pos h16]
 obtain ⟨sc, hs⟩ : ∃ sc, sched fw i = sc := ⟨_, rfl⟩
 rw [hr, hs]
 unfold sched at hs
 have HS := qh hs
 rw [show upd fw (i % 16) sc (i % 16) = sc by simp [upd]]
 clear hr hs
 generalize i % 16 = j0 at *
 generalize (i - 15) % 16 = j15 at *
 generalize (i - 7) % 16 = j7 at *
 generalize (i - 2) % 16 = j2 at *
 have y0 : (j0 : Int) < 16 := by omega
 have y15 : (j15 : Int) < 16 := by omega
 have y7 : (j7 : Int) < 16 := by omega
 have y2 : (j2 : Int) < 16 := by omega
 have Ou := qh (show ¬ pb = pa by intro e; simp [e] at hp)
 have Ot := qh (show ¬ pc = pa by intro e; simp [e] at hp)
 have Oq := qh (show ¬ pd = pa by intro e; simp [e] at hp)
 have Oo := qh (show ¬ pe = pa by intro e; simp [e] at hp)
 have Om := qh (show ¬ pf = pa by intro e; simp [e] at hp)
 have Ol := qh (show ¬ pg = pa by intro e; simp [e] at hp)
 have Oj := qh (show ¬ ph = pa by intro e; simp [e] at hp)
 have Oi := qh (show ¬ pc = pb by intro e; simp [e] at hp)
 have Oh := qh (show ¬ pd = pb by intro e; simp [e] at hp)
 have Og := qh (show ¬ pe = pb by intro e; simp [e] at hp)
 have Oe := qh (show ¬ pf = pb by intro e; simp [e] at hp)
 have Od := qh (show ¬ pg = pb by intro e; simp [e] at hp)
 have Oc := qh (show ¬ ph = pb by intro e; simp [e] at hp)
 have Ob := qh (show ¬ pd = pc by intro e; simp [e] at hp)
 have Oa := qh (show ¬ pe = pc by intro e; simp [e] at hp)
 have N9 := qh (show ¬ pf = pc by intro e; simp [e] at hp)
 have N8 := qh (show ¬ pg = pc by intro e; simp [e] at hp)
 have N7 := qh (show ¬ ph = pc by intro e; simp [e] at hp)
 have NZ := qh (show ¬ pe = pd by intro e; simp [e] at hp)
 have NY := qh (show ¬ pf = pd by intro e; simp [e] at hp)
 have NV := qh (show ¬ pg = pd by intro e; simp [e] at hp)
 have NU := qh (show ¬ ph = pd by intro e; simp [e] at hp)
 have NT := qh (show ¬ pf = pe by intro e; simp [e] at hp)
 have NS := qh (show ¬ pg = pe by intro e; simp [e] at hp)
 have NR := qh (show ¬ ph = pe by intro e; simp [e] at hp)
 have NQ := qh (show ¬ pg = pf by intro e; simp [e] at hp)
 have NP := qh (show ¬ ph = pf by intro e; simp [e] at hp)
 have NM := qh (show ¬ ph = pg by intro e; simp [e] at hp)
 have Zx := qh (hw.wU hA (by decide))
 have Zv := qh (hw.wU hB (by decide))
 have Zu := qh (hw.wU hC (by decide))
 have Zq := qh (hw.wU hD (by decide))
 have Zo := qh (hw.wU hE (by decide))
 have Zm := qh (hw.wU hF (by decide))
 have Zl := qh (hw.wU hG (by decide))
 have Zj := qh (hw.wU hH (by decide))
 clear hp
 have HA := qh hA
 have HB := qh hB
 have HC := qh hC
 have HD := qh hD
 have HE := qh hE
 have HF := qh hF
 have HG := qh hG
 have HH := qh hH
 have HW := qh hw
 clear hw hA hB hC hD hE hF hG hH
 have hi1 := qh (show (Tryz.prog.info? 24).map (·.size) = some 1 by kernel_rfl)
 go_enter Tryz.func59, Tryz.ntmps59
 go_wp2_with fail
 refine wp_region_still_tail 25 (by kernel_rfl) (by kernel_rfl) ?_
 simp only [List.take_succ_cons, List.take_zero, List.drop_succ_cons, List.drop_zero]
 repeat still_step
 still_call ((KY _ _).mono fun _ _ h => ⟨h.1, h.2.symm⟩)
 repeat still_step
 still_call ((OZ _ _).mono fun _ _ h => ⟨h.1, h.2.symm⟩)
 repeat still_step
 refine wpStill_nil ?_
 clear c15 c7 c2
 change wpList _ _ _ _ _ w.drew
 rw [HS.out]
 go_wp2_with ((with_reducible refine ag 39 38 ?_); refine aJ rfl 24 (.tmp 39) (.tmp 38) rfl rfl pw j0 (.int .u32 (wv sc)) rfl rfl rfl 122 _ (HW.out.drew) (by rw [bC]; exact z0) hi1.out ?_; intro W1 o1 b1)
 rw [tC] at b1
 clear f0 c0
 have hx : W1.cell? ⟨pw, j0, none⟩ = some (.int .u32 (wv sc)) := (b1.cell _).trans ((dD 16 _ _ z0).trans (by simp [upd]))
 replace hK : W1.cell? ⟨1, i, none⟩ = some (.int .u32 (wv kc)) := (o1.cell (by simp; omega)).trans hK
 have O0 := qh ((Only.refl [pw] w).drew.trans o1)
 replace HW := qh b1
 replace HA := qh (o1.blk HA.out.drew (by simpa using fun e => Zx.out e.symm))
 replace HB := qh (o1.blk HB.out.drew (by simpa using fun e => Zv.out e.symm))
 replace HC := qh (o1.blk HC.out.drew (by simpa using fun e => Zu.out e.symm))
 replace HD := qh (o1.blk HD.out.drew (by simpa using fun e => Zq.out e.symm))
 replace HE := qh (o1.blk HE.out.drew (by simpa using fun e => Zo.out e.symm))
 replace HF := qh (o1.blk HF.out.drew (by simpa using fun e => Zm.out e.symm))
 replace HG := qh (o1.blk HG.out.drew (by simpa using fun e => Zl.out e.symm))
 replace HH := qh (o1.blk HH.out.drew (by simpa using fun e => Zj.out e.symm))
 clear o1 b1 z0
 have cA : W1.cell? ⟨pa, 0, none⟩ = some (.int .u32 (wv a)) := HA.out.cell 0
 have cB : W1.cell? ⟨pb, 0, none⟩ = some (.int .u32 (wv b)) := HB.out.cell 0
 have cC : W1.cell? ⟨pc, 0, none⟩ = some (.int .u32 (wv c)) := HC.out.cell 0
 have cD : W1.cell? ⟨pd, 0, none⟩ = some (.int .u32 (wv d)) := HD.out.cell 0
 have cE : W1.cell? ⟨pe, 0, none⟩ = some (.int .u32 (wv e)) := HE.out.cell 0
 have cF : W1.cell? ⟨pf, 0, none⟩ = some (.int .u32 (wv f)) := HF.out.cell 0
 have cG : W1.cell? ⟨pg, 0, none⟩ = some (.int .u32 (wv g)) := HG.out.cell 0
 have cH : W1.cell? ⟨ph, 0, none⟩ = some (.int .u32 (wv h)) := HH.out.cell 0
 go_wp2_with fail
 go_quiet ((go_at_call 62; exact Calls.quiet_of_same (qG _ _ (by omega) (by omega) _)))
 simp only [show IntKind.u32.signed = false from rfl, if_false, Bool.false_eq_true, BF, u32_and, u32_xor, Dr, mq, Yz]
 generalize hW : World.drewN _ _ = W0
 replace cA : W0.cell? ⟨pa, 0, none⟩ = some (.int .u32 (wv a)) := by rw [← hW]; exact cA
 replace cB : W0.cell? ⟨pb, 0, none⟩ = some (.int .u32 (wv b)) := by rw [← hW]; exact cB
 replace cC : W0.cell? ⟨pc, 0, none⟩ = some (.int .u32 (wv c)) := by rw [← hW]; exact cC
 replace cD : W0.cell? ⟨pd, 0, none⟩ = some (.int .u32 (wv d)) := by rw [← hW]; exact cD
 replace cE : W0.cell? ⟨pe, 0, none⟩ = some (.int .u32 (wv e)) := by rw [← hW]; exact cE
 replace cF : W0.cell? ⟨pf, 0, none⟩ = some (.int .u32 (wv f)) := by rw [← hW]; exact cF
 replace cG : W0.cell? ⟨pg, 0, none⟩ = some (.int .u32 (wv g)) := by rw [← hW]; exact cG
 replace cH : W0.cell? ⟨ph, 0, none⟩ = some (.int .u32 (wv h)) := by rw [← hW]; exact cH
 replace HA : Hid (ax W0 pa 24 #[.int .u32 (wv a)]) := by rw [← hW]; exact HA.out
 replace HB : Hid (ax W0 pb 24 #[.int .u32 (wv b)]) := by rw [← hW]; exact HB.out
 replace HC : Hid (ax W0 pc 24 #[.int .u32 (wv c)]) := by rw [← hW]; exact HC.out
 replace HD : Hid (ax W0 pd 24 #[.int .u32 (wv d)]) := by rw [← hW]; exact HD.out
 replace HE : Hid (ax W0 pe 24 #[.int .u32 (wv e)]) := by rw [← hW]; exact HE.out
 replace HF : Hid (ax W0 pf 24 #[.int .u32 (wv f)]) := by rw [← hW]; exact HF.out
 replace HG : Hid (ax W0 pg 24 #[.int .u32 (wv g)]) := by rw [← hW]; exact HG.out
 replace HH : Hid (ax W0 ph 24 #[.int .u32 (wv h)]) := by rw [← hW]; exact HH.out
 replace HW : Hid (ax W0 pw 122 (bM 16 (upd fw j0 sc))) := by rw [← hW]; exact HW.out
 replace O0 := qh (show Only [pw] w W0 by rw [← hW]; exact O0.out.drewN _)
 clear hW hK hx
 go_wp2_with fail
 go_quiet ((go_at_call 62; exact Calls.quiet_of_same (qG _ _ (by omega) (by omega) _)))
 simp only [Yy]
 generalize hW : W0.drewN _ = W
 replace cA : W.cell? ⟨pa, 0, none⟩ = some (.int .u32 (wv a)) := by rw [← hW]; exact cA
 replace cB : W.cell? ⟨pb, 0, none⟩ = some (.int .u32 (wv b)) := by rw [← hW]; exact cB
 replace cC : W.cell? ⟨pc, 0, none⟩ = some (.int .u32 (wv c)) := by rw [← hW]; exact cC
 replace cD : W.cell? ⟨pd, 0, none⟩ = some (.int .u32 (wv d)) := by rw [← hW]; exact cD
 replace cE : W.cell? ⟨pe, 0, none⟩ = some (.int .u32 (wv e)) := by rw [← hW]; exact cE
 replace cF : W.cell? ⟨pf, 0, none⟩ = some (.int .u32 (wv f)) := by rw [← hW]; exact cF
 replace cG : W.cell? ⟨pg, 0, none⟩ = some (.int .u32 (wv g)) := by rw [← hW]; exact cG
 replace cH : W.cell? ⟨ph, 0, none⟩ = some (.int .u32 (wv h)) := by rw [← hW]; exact cH
 replace HA : Hid (ax W pa 24 #[.int .u32 (wv a)]) := by rw [← hW]; exact HA.out
 replace HB : Hid (ax W pb 24 #[.int .u32 (wv b)]) := by rw [← hW]; exact HB.out
 replace HC : Hid (ax W pc 24 #[.int .u32 (wv c)]) := by rw [← hW]; exact HC.out
 replace HD : Hid (ax W pd 24 #[.int .u32 (wv d)]) := by rw [← hW]; exact HD.out
 replace HE : Hid (ax W pe 24 #[.int .u32 (wv e)]) := by rw [← hW]; exact HE.out
 replace HF : Hid (ax W pf 24 #[.int .u32 (wv f)]) := by rw [← hW]; exact HF.out
 replace HG : Hid (ax W pg 24 #[.int .u32 (wv g)]) := by rw [← hW]; exact HG.out
 replace HH : Hid (ax W ph 24 #[.int .u32 (wv h)]) := by rw [← hW]; exact HH.out
 replace HW : Hid (ax W pw 122 (bM 16 (upd fw j0 sc))) := by rw [← hW]; exact HW.out
 replace O0 := qh (show Only [pw] w W by rw [← hW]; exact O0.out.drewN _)
 clear hW
 go_wp2_with (first
  | ((with_reducible refine ag 6 90 ?_); refine aF rfl 24 (.tmp 6) (.tmp 90) rfl rfl pa (.int .u32 (wv (T1 e f g h kc sc + T2 a b c))) rfl rfl rfl 24 _ HA.out hi1.out ?_; intro w1 o1 b1; clear cA cB cC cD cE cF cG cH)
  | ((with_reducible refine ag 7 91 ?_); refine aF rfl 24 (.tmp 7) (.tmp 91) rfl rfl pb (.int .u32 (wv a)) rfl rfl rfl 24 _ (o1.blk HB.out (by simpa using Ou.out)) hi1.out ?_; intro w2 o2 b2)
  | ((with_reducible refine ag 8 92 ?_); refine aF rfl 24 (.tmp 8) (.tmp 92) rfl rfl pc (.int .u32 (wv b)) rfl rfl rfl 24 _ (o2.blk (o1.blk HC.out (by simpa using Ot.out)) (by simpa using Oi.out)) hi1.out ?_; intro w3 o3 b3)
  | ((with_reducible refine ag 9 93 ?_); refine aF rfl 24 (.tmp 9) (.tmp 93) rfl rfl pd (.int .u32 (wv c)) rfl rfl rfl 24 _ (o3.blk (o2.blk (o1.blk HD.out (by simpa using Oq.out)) (by simpa using Oh.out)) (by simpa using Ob.out)) hi1.out ?_; intro w4 o4 b4)
  | ((with_reducible refine ag 3 96 ?_); refine aF rfl 24 (.tmp 3) (.tmp 96) rfl rfl pe (.int .u32 (wv (d + T1 e f g h kc sc))) rfl rfl rfl 24 _ (o4.blk (o3.blk (o2.blk (o1.blk HE.out (by simpa using Oo.out)) (by simpa using Og.out)) (by simpa using Oa.out)) (by simpa using NZ.out)) hi1.out ?_; intro w5 o5 b5)
  | ((with_reducible refine ag 4 97 ?_); refine aF rfl 24 (.tmp 4) (.tmp 97) rfl rfl pf (.int .u32 (wv e)) rfl rfl rfl 24 _ (o5.blk (o4.blk (o3.blk (o2.blk (o1.blk HF.out (by simpa using Om.out)) (by simpa using Oe.out)) (by simpa using N9.out)) (by simpa using NY.out)) (by simpa using NT.out)) hi1.out ?_; intro w6 o6 b6)
  | ((with_reducible refine ag 5 98 ?_); refine aF rfl 24 (.tmp 5) (.tmp 98) rfl rfl pg (.int .u32 (wv f)) rfl rfl rfl 24 _ (o6.blk (o5.blk (o4.blk (o3.blk (o2.blk (o1.blk HG.out (by simpa using Ol.out)) (by simpa using Od.out)) (by simpa using N8.out)) (by simpa using NV.out)) (by simpa using NS.out)) (by simpa using NQ.out)) hi1.out ?_; intro w7 o7 b7)
  | ((with_reducible refine ag 2 99 ?_); refine aF rfl 24 (.tmp 2) (.tmp 99) rfl rfl ph (.int .u32 (wv g)) rfl rfl rfl 24 _ (o7.blk (o6.blk (o5.blk (o4.blk (o3.blk (o2.blk (o1.blk HH.out (by simpa using Oj.out)) (by simpa using Oc.out)) (by simpa using N7.out)) (by simpa using NU.out)) (by simpa using NR.out)) (by simpa using NP.out)) (by simpa using NM.out)) hi1.out ?_; intro w8 o8 b8)
 )
 go_end0
 have OO : Only [pw, pa, pb, pc, pd, pe, pf, pg, ph] w w8 := (((((((((O0.out.mono (by simp)).trans (o1.mono (by simp))).trans (o2.mono (by simp))).trans (o3.mono (by simp))).trans (o4.mono (by simp))).trans (o5.mono (by simp))).trans (o6.mono (by simp))).trans (o7.mono (by simp))).trans (o8.mono (by simp)))
 have BW : ax w8 pw 122 (bM 16 (upd fw j0 sc)) := (o8.blk (o7.blk (o6.blk (o5.blk (o4.blk (o3.blk (o2.blk (o1.blk HW.out (by simpa using Zx.out)) (by simpa using Zv.out)) (by simpa using Zu.out)) (by simpa using Zq.out)) (by simpa using Zo.out)) (by simpa using Zm.out)) (by simpa using Zl.out)) (by simpa using Zj.out))
 exact ⟨rfl, OO, BW, (o8.blk (o7.blk (o6.blk (o5.blk (o4.blk (o3.blk (o2.blk b1 (by simpa using fun e => Ou.out e.symm)) (by simpa using fun e => Ot.out e.symm)) (by simpa using fun e => Oq.out e.symm)) (by simpa using fun e => Oo.out e.symm)) (by simpa using fun e => Om.out e.symm)) (by simpa using fun e => Ol.out e.symm)) (by simpa using fun e => Oj.out e.symm)), (o8.blk (o7.blk (o6.blk (o5.blk (o4.blk (o3.blk b2 (by simpa using fun e => Oi.out e.symm)) (by simpa using fun e => Oh.out e.symm)) (by simpa using fun e => Og.out e.symm)) (by simpa using fun e => Oe.out e.symm)) (by simpa using fun e => Od.out e.symm)) (by simpa using fun e => Oc.out e.symm)), (o8.blk (o7.blk (o6.blk (o5.blk (o4.blk b3 (by simpa using fun e => Ob.out e.symm)) (by simpa using fun e => Oa.out e.symm)) (by simpa using fun e => N9.out e.symm)) (by simpa using fun e => N8.out e.symm)) (by simpa using fun e => N7.out e.symm)), (o8.blk (o7.blk (o6.blk (o5.blk b4 (by simpa using fun e => NZ.out e.symm)) (by simpa using fun e => NY.out e.symm)) (by simpa using fun e => NV.out e.symm)) (by simpa using fun e => NU.out e.symm)), (o8.blk (o7.blk (o6.blk b5 (by simpa using fun e => NT.out e.symm)) (by simpa using fun e => NS.out e.symm)) (by simpa using fun e => NR.out e.symm)), (o8.blk (o7.blk b6 (by simpa using fun e => NQ.out e.symm)) (by simpa using fun e => NP.out e.symm)), (o8.blk b7 (by simpa using fun e => NM.out e.symm)), b8⟩
end
section
open Go.RowKit
theorem oG {w : World} {o : Obj} {a : Addr} {v : Value} (h : w.cell? a = some v) : (w.alloc o).cell? a = some v := by
 rw [World.cell?_alloc_lt w o a (World.block_lt_of_cell? w _ h)]; exact h
theorem eX {w : World} {o : Obj} {a b c d : Addr} {x y z u : Value} (h : w.cell? a = some x ∧ w.cell? b = some y ∧ w.cell? c = some z ∧ w.cell? d = some u) :
 (w.alloc o).cell? a = some x ∧ (w.alloc o).cell? b = some y ∧ (w.alloc o).cell? c = some z ∧ (w.alloc o).cell? d = some u := ⟨oG h.1, oG h.2.1, oG h.2.2.1, oG h.2.2.2⟩
theorem mW {w : World} {a b c d : Addr} {x y z u : Value} (h : w.cell? a = some x ∧ w.cell? b = some y ∧ w.cell? c = some z ∧ w.cell? d = some u) :
 w.drew.cell? a = some x ∧ w.drew.cell? b = some y ∧ w.drew.cell? c = some z ∧ w.drew.cell? d = some u := h
theorem Cx (K : Nat → BitVec 32) (s : ByteArray) (h : Nat → BitVec 32) (hs : s.size = 64) (w : World)
 (hK : ∀ i, i < 64 → w.cell? ⟨1, i, none⟩ = some (.int .u32 (wv (K i)))) :
 Calls Tryz.prog 31 #[.agg (bM 8 h), .string s] w fun e w' => e = .returned (.agg (bM 8 (dA K (dY s.data.toList) h))) ∧ Below w.heap.size w w' := by
 have Hs := qh hs
 have HK := qh hK
 have hgl : 1 < w.heap.size := World.block_lt_of_cell? w _ (hK 0 (by omega))
 clear hs hK
 go_enter Tryz.func31, Tryz.ntmps31
 go_wp2_with fail
 go_loopw [19] (fun i wr => ∃ k : Nat, k ≤ 16 ∧ i = .int .i64 k ∧ ax wr (w.heap.size + 2) 122 (bM 16 (fun j => if j < k then dY s.data.toList j else 0)) ∧ ax wr w.heap.size 80 (bM 8 h) ∧
  ax wr (w.heap.size + 1) 80 (bM 8 (fun _ => 0)) ∧ Below w.heap.size w wr ∧ wr.heap.size = w.heap.size + 3)
  (fun i _ => 16 - (intOf i).toNat)
 case atStart =>
  refine ⟨0, by omega, rfl, ?_, ?_, ?_, ?_, by simp⟩
  ·exact bg _ (bM 16 (fun j => if j < 0 then dY s.data.toList j else 0)) (by simp)
  ·exact ((ax.new _ _ _).alloc _).alloc _
  ·exact (bg _ (bM 8 (fun _ => 0)) (by simp)).alloc _
  ·exact (((Below.refl _ _).alloc (Nat.le_refl _) _).alloc (by simp) _).alloc (by simp; omega) _
 case round =>
  obtain ⟨k, hk, rfl, h1, h2, h3, hb, hz⟩ := hrel
  by_cases hlt : k < 16
  ·go_wp2_with fail
   refine (Md s k (by have := Hs.out; omega) (by have := Hs.out; omega) _).mono ?_
   rintro e w' ⟨rfl, n, rfl⟩
   have hc : wr.cell? ⟨w.heap.size + 1 + 1, k, none⟩ = some (.int .u32 (wv 0)) := by
    rw [show w.heap.size + 1 + 1 = w.heap.size + 2 from rfl, h1.cell, dD _ _ _ hlt]; simp
   have hf : wr.frozen? ⟨w.heap.size + 1 + 1, k, none⟩ = false := h1.frozen k
   go_wp2
   go_roundw
   case rel =>
    refine ⟨k + 1, by omega, by go_num, ?_, ?_, ?_, ?_, ?_⟩
    ·have hh := (h1.drewN n).zI k (.int .u32 (wv (dY s.data.toList k)))
     rw [tC] at hh
     rw [iC 16 _ (upd (fun j => if j < k then dY s.data.toList j else 0) k (dY s.data.toList k)) (fun i hi => by
      unfold upd; by_cases e : i = k
      ·subst e; simp
      ·by_cases l : i < k
       ·simp [e, l]; omega
       ·simp [e, l]; omega)]
     exact hh
    ·exact (h2.drewN n).far (by simp; omega) _
    ·exact (h3.drewN n).far (by simp) _
    ·exact (below_drewN hb n).setCell (by simp; omega) _
    ·simpa [World.setCell] using hz
   case measure => simp [intOf]; omega
  ·have a0 : ∀ j, j < 8 → wr.cell? ⟨w.heap.size, j, none⟩ = some (.int .u32 (wv (h j))) := fun j hj => by rw [h2.cell, dD _ _ _ hj]
   have c0 := a0 0 (by omega)
   have c1 := a0 1 (by omega)
   have c2 := a0 2 (by omega)
   have c3 := a0 3 (by omega)
   have a1 := qh a0
   clear a0
   have h1' : ax wr (w.heap.size + 2) 122 (bM 16 (dY s.data.toList)) := by
    rw [iC 16 (dY s.data.toList) (fun j => if j < k then dY s.data.toList j else 0) (fun i hi => by rw [if_pos (by omega)])]; exact h1
   have H1 := qh h1'
   have H2 := qh h2
   have H3 := qh h3
   clear h1 h2 h3 h1'
   go_wp2_with fail
   go_cut [7, 8, 9, 10] (fun p7 p8 p9 Xw wc => ∃ g7 g8 g9 g10 : Nat, p7 = .pointer (some ⟨g7, 0, none⟩) ∧ p8 = .pointer (some ⟨g8, 0, none⟩) ∧ p9 = .pointer (some ⟨g9, 0, none⟩) ∧ Xw = .pointer (some ⟨g10, 0, none⟩) ∧
    (ax wc g7 24 #[.int .u32 (wv (h 0))] ∧ ax wc g8 24 #[.int .u32 (wv (h 1))] ∧ ax wc g9 24 #[.int .u32 (wv (h 2))] ∧ ax wc g10 24 #[.int .u32 (wv (h 3))]) ∧
    (wr.heap.size ≤ g7 ∧ wr.heap.size ≤ g8 ∧ wr.heap.size ≤ g9 ∧ wr.heap.size ≤ g10) ∧ (g7 ≠ g8 ∧ g7 ≠ g9 ∧ g7 ≠ g10 ∧ g8 ≠ g9 ∧ g8 ≠ g10 ∧ g9 ≠ g10) ∧ Below wr.heap.size wr wc ∧ wc.heap.size = wr.heap.size + 4)
   case first =>
    clear HK hgl hb hlt Hs a1 H1 H2 H3
    have h0 := And.intro c0 (And.intro c1 (And.intro c2 c3))
    go_region_held3 (fun w' => w'.cell? ⟨w.heap.size, 0, none⟩ = some (.int .u32 (wv (h 0))) ∧ w'.cell? ⟨w.heap.size, 1, none⟩ = some (.int .u32 (wv (h 1))) ∧
     w'.cell? ⟨w.heap.size, 2, none⟩ = some (.int .u32 (wv (h 2))) ∧ w'.cell? ⟨w.heap.size, 3, none⟩ = some (.int .u32 (wv (h 3))))
     (first | exact mW h0 | exact mW (eX h0) | exact mW (eX (eX h0)) | exact mW (eX (eX (eX h0))) | exact mW (eX (eX (eX (eX h0))))) (first | fail)
    all_goals (
     go_wp2_with fail
     go_meet
     refine ⟨_, _, _, _, rfl, rfl, rfl, rfl, ⟨?_, ?_, ?_, ?_⟩, ?_, ?_, ?_, ?_⟩
     rotate_right 1
     ·simp
     rotate_right 1
     ·exact (((((Below.refl _ _).alloc (Nat.le_refl _) _).alloc (by simp) _).alloc (by simp; omega) _).alloc (by simp; omega) _).drew
     rotate_right 1
     ·omega
     rotate_right 1
     ·omega
     all_goals first
      | exact (bg _ _ (by simp [hz])).drew
      | exact ((bg _ _ (by simp [hz])).alloc _).drew
      | exact (((bg _ _ (by simp [hz])).alloc _).alloc _).drew
      | exact ((((bg _ _ (by simp [hz])).alloc _).alloc _).alloc _).drew)
   case rest =>
    rename World => Jl
    obtain ⟨g7, g8, g9, g10, rfl, rfl, rfl, rfl, B1, hge, hne, hb1, hz1⟩ := hcut
    replace hne := qh hne
    replace B1 := qh B1
    have a0 : ∀ j, j < 8 → Jl.cell? ⟨w.heap.size, j, none⟩ = some (.int .u32 (wv (h j))) := fun j hj => by rw [hb1.cell (by simp; omega)]; exact a1.out j hj
    have c4 := a0 4 (by omega)
    have c5 := a0 5 (by omega)
    have c6 := a0 6 (by omega)
    have c7 := a0 7 (by omega)
    clear a0 c0 c1 c2 c3
    go_wp2_with fail
    go_cut [11, 12, 13, 14] (fun p7 p8 p9 Xw wc => ∃ g11 g12 g13 g14 : Nat, p7 = .pointer (some ⟨g11, 0, none⟩) ∧ p8 = .pointer (some ⟨g12, 0, none⟩) ∧ p9 = .pointer (some ⟨g13, 0, none⟩) ∧ Xw = .pointer (some ⟨g14, 0, none⟩) ∧
     (ax wc g11 24 #[.int .u32 (wv (h 4))] ∧ ax wc g12 24 #[.int .u32 (wv (h 5))] ∧ ax wc g13 24 #[.int .u32 (wv (h 6))] ∧ ax wc g14 24 #[.int .u32 (wv (h 7))]) ∧
     (Jl.heap.size ≤ g11 ∧ Jl.heap.size ≤ g12 ∧ Jl.heap.size ≤ g13 ∧ Jl.heap.size ≤ g14) ∧ (g11 ≠ g12 ∧ g11 ≠ g13 ∧ g11 ≠ g14 ∧ g12 ≠ g13 ∧ g12 ≠ g14 ∧ g13 ≠ g14) ∧ Below Jl.heap.size Jl wc ∧ wc.heap.size = Jl.heap.size + 4)
    case first =>
     have hsz : Jl.heap.size = w.heap.size + 7 := by omega
     clear HK hgl hb hz hlt Hs a1 H1 H2 H3 hne B1 hge hb1 hz1
     have h0 := And.intro c4 (And.intro c5 (And.intro c6 c7))
     go_region_held3 (fun w' => w'.cell? ⟨w.heap.size, 4, none⟩ = some (.int .u32 (wv (h 4))) ∧ w'.cell? ⟨w.heap.size, 5, none⟩ = some (.int .u32 (wv (h 5))) ∧
      w'.cell? ⟨w.heap.size, 6, none⟩ = some (.int .u32 (wv (h 6))) ∧ w'.cell? ⟨w.heap.size, 7, none⟩ = some (.int .u32 (wv (h 7))))
      (first | exact mW h0 | exact mW (eX h0) | exact mW (eX (eX h0)) | exact mW (eX (eX (eX h0))) | exact mW (eX (eX (eX (eX h0))))) (first | fail)
     all_goals (
      go_wp2_with fail
      go_meet
      refine ⟨_, _, _, _, rfl, rfl, rfl, rfl, ⟨?_, ?_, ?_, ?_⟩, ?_, ?_, ?_, ?_⟩
      rotate_right 1
      ·simp
      rotate_right 1
      ·exact (((((Below.refl _ _).alloc (Nat.le_refl _) _).alloc (by simp) _).alloc (by simp; omega) _).alloc (by simp; omega) _).drew
      rotate_right 1
      ·omega
      rotate_right 1
      ·omega
      all_goals first
       | exact (bg _ _ (by simp [hsz])).drew
       | exact ((bg _ _ (by simp [hsz])).alloc _).drew
       | exact (((bg _ _ (by simp [hsz])).alloc _).alloc _).drew
       | exact ((((bg _ _ (by simp [hsz])).alloc _).alloc _).alloc _).drew)
    case rest =>
     rename World => wd
     obtain ⟨g11, g12, g13, g14, rfl, rfl, rfl, rfl, B2, aas, hne2, hb2, hz2⟩ := hcut
     replace hne2 := qh hne2
     have hb2' : Below wr.heap.size wr wd := hb1.trans (hb2.mono (by omega))
     have lt2 : w.heap.size + 2 < wr.heap.size := by omega
     replace H1 := aa hb2' H1.out lt2
     replace H2 := qh (aa hb2' H2.out (by omega))
     replace H3 := qh (aa hb2' H3.out (by omega))
     have e7 : g7 < Jl.heap.size := B1.out.1.lt
     have e8 : g8 < Jl.heap.size := B1.out.2.1.lt
     have e9 : g9 < Jl.heap.size := B1.out.2.2.1.lt
     have e10 : g10 < Jl.heap.size := B1.out.2.2.2.lt
     have hB : Below w.heap.size w wd := hb.trans (hb2'.mono (by omega))
     have D1 := qh (And.intro (aa hb2 B1.out.1 e7) (And.intro (aa hb2 B1.out.2.1 e8) (And.intro (aa hb2 B1.out.2.2.1 e9) (aa hb2 B1.out.2.2.2 e10))))
     have hnd : [g7, g8, g9, g10, g11, g12, g13, g14].Nodup := by
      have := hne.out; have := hne2.out
      simp only [List.nodup_cons, List.mem_cons, List.not_mem_nil, not_or]
      refine ⟨⟨by omega, by omega, by omega, by omega, by omega, by omega, by omega, not_false⟩, ⟨by omega, by omega, by omega, by omega, by omega, by omega, not_false⟩, ⟨by omega, by omega, by omega, by omega, by omega, not_false⟩, ⟨by omega, by omega, by omega, by omega, not_false⟩, ⟨by omega, by omega, by omega, not_false⟩, ⟨by omega, by omega, not_false⟩, ⟨by omega, not_false⟩, not_false, List.nodup_nil⟩
     have HN := qh hnd
     replace H1 := qh H1
     replace B2 := qh B2
     have hm2 : ∀ x, x ∈ [w.heap.size + 2, g7, g8, g9, g10, g11, g12, g13, g14] → w.heap.size + 2 ≤ x := by
      intro x hx
      simp only [List.mem_cons, List.not_mem_nil, or_false] at hx
      omega
     have HM := qh hm2
     clear hnd hm2 hb2' hb1 hb2 B1 hne hne2 a1 c4 c5 c6 c7 hge aas e7 e8 e9 e10 hz1 hz2 lt2
     have ED : ∀ (fn : Fn) (first cap : Array Value) (w : World), (Instr.makeFunc fn first cap).run Tryz.prog w = .ok (.func fn first cap) w := fun _ _ _ _ => rfl
     go_wp2_with fail
     clear ED
     go_loopw [45] (fun i wr => ∃ k : Nat, k ≤ 64 ∧ i = .int .i64 k ∧ Only [w.heap.size + 2, g7, g8, g9, g10, g11, g12, g13, g14] wd wr ∧
      ax wr (w.heap.size + 2) 122 (bM 16 ((St.ofHash (dY s.data.toList) h).run K k).w) ∧
      ax wr g7 24 #[.int .u32 (wv ((St.ofHash (dY s.data.toList) h).run K k).a)] ∧ ax wr g8 24 #[.int .u32 (wv ((St.ofHash (dY s.data.toList) h).run K k).b)] ∧
      ax wr g9 24 #[.int .u32 (wv ((St.ofHash (dY s.data.toList) h).run K k).c)] ∧ ax wr g10 24 #[.int .u32 (wv ((St.ofHash (dY s.data.toList) h).run K k).d)] ∧
      ax wr g11 24 #[.int .u32 (wv ((St.ofHash (dY s.data.toList) h).run K k).e)] ∧ ax wr g12 24 #[.int .u32 (wv ((St.ofHash (dY s.data.toList) h).run K k).f)] ∧
      ax wr g13 24 #[.int .u32 (wv ((St.ofHash (dY s.data.toList) h).run K k).g)] ∧ ax wr g14 24 #[.int .u32 (wv ((St.ofHash (dY s.data.toList) h).run K k).h)])
      (fun i _ => 64 - (intOf i).toNat)
     case atStart => exact ⟨0, by omega, rfl, Only.refl _ _, H1.out, D1.out.1, D1.out.2.1, D1.out.2.2.1, D1.out.2.2.2, B2.out.1, B2.out.2.1, B2.out.2.2.1, B2.out.2.2.2⟩
     case round =>
      rename World => wq
      obtain ⟨k, hk, rfl, hO, q0, q1, q2, q3, q4, q5, q6, q7, q8⟩ := hrel
      generalize hst : (St.ofHash (dY s.data.toList) h).run K k = st at *
      have HST := qh hst
      clear hst
      by_cases hlt : k < 64
      ·have Q := qh (And.intro q0 (And.intro q1 (And.intro q2 (And.intro q3 (And.intro q4 (And.intro q5 (And.intro q6 (And.intro q7 q8))))))))
       clear q0 q1 q2 q3 q4 q5 q6 q7 q8
       go_wp2_with fail
       have hr : Calls Tryz.prog 59 #[.int .i64 k, .pointer (some ⟨w.heap.size + 2, 0, none⟩), .pointer (some ⟨g14, 0, none⟩), .pointer (some ⟨g11, 0, none⟩), .pointer (some ⟨g12, 0, none⟩), .pointer (some ⟨g13, 0, none⟩), .pointer (some ⟨g7, 0, none⟩), .pointer (some ⟨g8, 0, none⟩), .pointer (some ⟨g9, 0, none⟩), .pointer (some ⟨g10, 0, none⟩)] wq
        fun ee w' => ee = .returned (.tuple #[]) ∧ Only [w.heap.size + 2, g7, g8, g9, g10, g11, g12, g13, g14] wq w' ∧ ax w' (w.heap.size + 2) 122 (bM 16 (st.step K k).w) ∧
         ax w' g7 24 #[.int .u32 (wv (st.step K k).a)] ∧ ax w' g8 24 #[.int .u32 (wv (st.step K k).b)] ∧ ax w' g9 24 #[.int .u32 (wv (st.step K k).c)] ∧ ax w' g10 24 #[.int .u32 (wv (st.step K k).d)] ∧
         ax w' g11 24 #[.int .u32 (wv (st.step K k).e)] ∧ ax w' g12 24 #[.int .u32 (wv (st.step K k).f)] ∧ ax w' g13 24 #[.int .u32 (wv (st.step K k).g)] ∧ ax w' g14 24 #[.int .u32 (wv (st.step K k).h)] := by
        have hKk : wq.cell? ⟨1, k, none⟩ = some (.int .u32 (wv (K k))) := by
         rw [hO.cell (fun hm => by have := HM.out _ hm; simp at this), hB.cell hgl]; exact HK.out k hlt
        obtain ⟨q0, q1, q2, q3, q4, q5, q6, q7, q8⟩ := Q.out
        by_cases h16 : k < 16
        ·exact MP _ _ _ _ _ _ _ _ _ k h16 st.w (K k) _ _ _ _ _ _ _ _ wq hKk (by omega) q0 q1 q2 q3 q4 q5 q6 q7 q8 HN.out
        ·exact MQ _ _ _ _ _ _ _ _ _ k (by omega) hlt st.w (K k) _ _ _ _ _ _ _ _ wq hKk (by omega) q0 q1 q2 q3 q4 q5 q6 q7 q8 HN.out
       refine hr.mono ?_
       rintro e w' ⟨rfl, hO', r0, r1, r2, r3, r4, r5, r6, r7, r8⟩
       have hOO := hO.trans hO'
       have R := qh (And.intro r0 (And.intro r1 (And.intro r2 (And.intro r3 (And.intro r4 (And.intro r5 (And.intro r6 (And.intro r7 r8))))))))
       clear r0 r1 r2 r3 r4 r5 r6 r7 r8
       go_wp2
       go_roundw
       case rel =>
        refine ⟨k + 1, by omega, by go_num, hOO, ?_⟩
        have e : (St.ofHash (dY s.data.toList) h).run K (k + 1) = st.step K k := by rw [← HST.out]; rfl
        rw [e]
        exact R.out
       case measure => simp [intOf]; omega
      ·have cA : wq.cell? ⟨g7, 0, none⟩ = some (.int .u32 (wv st.a)) := q1.cell 0
       have cB : wq.cell? ⟨g8, 0, none⟩ = some (.int .u32 (wv st.b)) := q2.cell 0
       have cC : wq.cell? ⟨g9, 0, none⟩ = some (.int .u32 (wv st.c)) := q3.cell 0
       have cD : wq.cell? ⟨g10, 0, none⟩ = some (.int .u32 (wv st.d)) := q4.cell 0
       have cE : wq.cell? ⟨g11, 0, none⟩ = some (.int .u32 (wv st.e)) := q5.cell 0
       have cF : wq.cell? ⟨g12, 0, none⟩ = some (.int .u32 (wv st.f)) := q6.cell 0
       have cG : wq.cell? ⟨g13, 0, none⟩ = some (.int .u32 (wv st.g)) := q7.cell 0
       have cH : wq.cell? ⟨g14, 0, none⟩ = some (.int .u32 (wv st.h)) := q8.cell 0
       have hB2 : ∀ x, x < w.heap.size + 2 → x ∉ [w.heap.size + 2, g7, g8, g9, g10, g11, g12, g13, g14] := fun x hx hm => by have := HM.out x hm; omega
       have N2 := qh (hO.blk H2.out (hB2 _ (by omega)))
       have N3 := qh (hO.blk H3.out (hB2 _ (by omega)))
       have hBq : Below w.heap.size w wq := hB.trans (hO.below (fun k hk => by have := HM.out k hk; omega))
       clear q0 q1 q2 q3 q4 q5 q6 q7 q8 hO hB2
       go_wp2_with fail
       clear cA cB cC cD cE cF cG cH
       rw [show (#[Value.int IntKind.u32 (wv st.a), Value.int IntKind.u32 (wv st.b), Value.int IntKind.u32 (wv st.c), Value.int IntKind.u32 (wv st.d), Value.int IntKind.u32 (wv st.e), Value.int IntKind.u32 (wv st.f), Value.int IntKind.u32 (wv st.g), Value.int IntKind.u32 (wv st.h)] : Array Value) = bM 8 st.out from rfl]
       go_loopw [61] (fun i wr => ∃ k : Nat, k ≤ 8 ∧ i = .int .i64 k ∧ ax wr w.heap.size 80 (bM 8 (fun j => if j < k then h j + st.out j else h j)) ∧ ax wr (w.heap.size + 1) 80 (bM 8 (fun _ => 0)) ∧ Below w.heap.size w wr)
        (fun i _ => 8 - (intOf i).toNat)
       case atStart => exact ⟨0, by omega, rfl, N2.out, N3.out, hBq⟩
       case round =>
        rename World => wz
        rename_i hk9 _
        obtain ⟨j, hj, rfl, r1, r2, r3⟩ := hrel
        by_cases hlt : j < 8
        ·have hel := dD 8 st.out j hlt
         have hc := (r1.cell j).trans (dD 8 _ j hlt)
         simp only [Nat.lt_irrefl, if_false] at hc
         have hf := r1.frozen j
         have hidx := mX (P := Tryz.prog) 80 24 8 _ .i64 .u32 j _ Tryz.underlying80 Tryz.underlying24 (by kernel_rfl) hlt hel
         have H1 := qh r1
         have H2 := qh r2
         clear r1 r2 hel
         go_wp2
         go_roundw
         case rel =>
          refine ⟨j + 1, by omega, by go_num, ?_, H2.out.far (by simp) _, r3.setCell (by simp) _⟩
          have hh := H1.out.zI j (.int .u32 (wv (h j + st.out j)))
          rw [tC] at hh
          rw [mq, iC 8 _ (upd (fun i => if i < j then h i + st.out i else h i) j (h j + st.out j)) (fun i hi => by
           unfold upd; by_cases e : i = j
           ·subst e; simp
           ·by_cases l : i < j
            ·simp [e, l]; omega
            ·simp [e, l]; omega)]
          exact hh
         case measure => simp [intOf]; omega
        ·have r1' : ax wz w.heap.size 80 (bM 8 (dA K (dY s.data.toList) h)) := by
          rw [iC 8 (dA K (dY s.data.toList) h) (fun i => if i < j then h i + st.out i else h i) (fun i hi => by
           rw [if_pos (by omega), ← HST.out, show k = 64 by omega]; rfl)]
          exact r1
         clear r1
         have R1 := qh r1'
         have R2 := qh r2
         clear r1' r2
         go_wp2_with (first
          | ((with_reducible refine az 2 ?_); refine wpList_load_row rfl 80 (.tmp 2) rfl w.heap.size rfl 80 (bM 8 (dA K (dY s.data.toList) h)) (0, 0) _ R1.out Tryz.underlying80 rfl (by rw [bC]; kernel_rfl) ?_)
          | ((with_reducible refine ag 4 72 ?_); refine aG rfl 80 (.tmp 4) (.tmp 72) rfl rfl (w.heap.size + 1) (bM 8 (dA K (dY s.data.toList) h)) rfl rfl 80 _ R2.out (by rw [bC]; kernel_rfl) (by rw [bC, bC]) (ji _ _) ?_; intro w5 o5 b5))
         refine bodyPost_ret (results_cell_row rfl _ _ (w.heap.size + 1) 80 _ (0, 0) _ rfl b5 Tryz.underlying80 rfl (by rw [bC]; kernel_rfl)) rfl ⟨rfl, r3.trans (o5.below (by simp))⟩
end
section
open Go.RowKit
theorem MH (h : Nat → BitVec 32) (w : World) :
 Calls Tryz.prog 32 #[.agg (bM 8 h)] w fun e w' => e = .returned (.agg (ay (eY h))) ∧ Below w.heap.size w w' := by
 go_enter Tryz.func32, Tryz.ntmps32
 go_wp2_with ((with_reducible refine az 1 ?_); refine wpList_load_row rfl 80 (.tmp 1) rfl w.heap.size rfl 80 (bM 8 h) (0, 0) _ (((ax.new w _ _).alloc _).alloc _) Tryz.underlying80 rfl (by rw [bC]; kernel_rfl) ?_)
 go_loopw [8] (fun i wr => ∃ k : Nat, k ≤ 8 ∧ i = .int .i64 k ∧ ax wr (w.heap.size + 2) 26 (ay (tab 32 fun j => if j < 4 * k then byteOf (h (j / 4)) (j % 4) else 0)) ∧
  ax wr (w.heap.size + 1) 26 (ay (tab 32 fun _ => 0)) ∧ Below w.heap.size w wr)
  (fun i _ => 8 - (intOf i).toNat)
 case atStart =>
  refine ⟨0, by omega, rfl, ?_, ?_, ?_⟩
  ·exact bg _ (ay (tab 32 fun j => if j < 4 * 0 then byteOf (h (j / 4)) (j % 4) else 0)) (by simp)
  ·exact (bg _ (ay (tab 32 fun _ => 0)) (by simp)).alloc _
  ·exact (((Below.refl _ _).alloc (Nat.le_refl _) _).alloc (by simp) _).alloc (by simp; omega) _
 case round =>
  obtain ⟨k, hk, rfl, h1, h2, hb⟩ := hrel
  by_cases hlt : k < 8
  ·have hidx := mX (P := Tryz.prog) 80 24 8 _ .i64 .u32 k _ Tryz.underlying80 Tryz.underlying24 (by kernel_rfl) hlt (dD 8 h k hlt)
   have H1 := qh h1
   have H2 := qh h2
   clear h1 h2
   go_wp2_with fail
   go_loopw [12] (fun i wr => ∃ j : Nat, j ≤ 4 ∧ i = .int .i64 j ∧ ax wr (w.heap.size + 2) 26 (ay (tab 32 fun i => if i < 4 * k + j then byteOf (h (i / 4)) (i % 4) else 0)) ∧
    ax wr (w.heap.size + 1) 26 (ay (tab 32 fun _ => 0)) ∧ Below w.heap.size w wr)
    (fun i _ => 4 - (intOf i).toNat)
   case atStart => exact ⟨0, by omega, rfl, H1.out, H2.out, hb⟩
   case round =>
    clear hb H1 H2 hidx
    rename World => wq
    obtain ⟨j, hj, rfl, h1, h2, hb⟩ := hrel
    by_cases hl : j < 4
    ·have hin : 4 * k + j < (tab 32 fun i => if i < 4 * k + j then byteOf (h (i / 4)) (i % 4) else 0).length := by rw [iJ]; omega
     have hc : wq.cell? ⟨w.heap.size + 1 + 1, 4 * k + j, none⟩ = _ := (h1.cell _).trans (gT _ _ hin)
     have hf : wq.frozen? ⟨w.heap.size + 1 + 1, 4 * k + j, none⟩ = false := h1.frozen _
     have H1 := qh h1
     have H2 := qh h2
     clear h1 h2
     have i0 : (0 : Int) ≤ 24 - 8 * (j : Int) := by omega
     have i1 : 24 - 8 * (j : Int) ≤ 32 := by omega
     have i2 : 4 * (k : Int) + (j : Int) < 32 := by omega
     go_wp2
     go_roundw
     case rel =>
      refine ⟨j + 1, by omega, by go_num, ?_, H2.out.far (by simp) _, hb.setCell (by simp; omega) _⟩
      have hh := H1.out.zI (4 * k + j) (.int .u8 ((byteOf (h k) j).toNat : Int))
      rw [sP, xk 32 _ (fun i => if i < 4 * k + (j + 1) then byteOf (h (i / 4)) (i % 4) else 0) _ _ (fun i hi => by
       by_cases e : i = 4 * k + j
       ·subst e
        rw [if_pos (by omega), if_pos rfl, show (4 * k + j) / 4 = k by omega, show (4 * k + j) % 4 = j by omega]
       ·rw [if_neg e]
        by_cases l : i < 4 * k + j
        ·rw [if_pos l, if_pos (by omega)]
        ·rw [if_neg l, if_neg (by omega)])] at hh
      rw [mh, Bi]
      exact hh
     case measure => simp [intOf]; omega
    ·go_wp2_with fail
     go_roundw
     case rel =>
      refine ⟨k + 1, by omega, by go_num, ?_, h2, hb⟩
      rw [show 4 * (k + 1) = 4 * k + j by omega]
      exact h1
     case measure => simp [intOf]; omega
  ·have h1' : ax wr (w.heap.size + 2) 26 (ay (eY h)) := by
    unfold eY
    rw [qE 32 (fun j => byteOf (h (j / 4)) (j % 4)) (fun j => if j < 4 * k then byteOf (h (j / 4)) (j % 4) else 0) (fun i hi => (if_pos (by omega)).symm)]
    exact h1
   have H1 := qh h1'
   have H2 := qh h2
   clear h1 h2 h1'
   have hlen : (eY h).length = 32 := iJ _ _
   go_wp2_with (first
    | ((with_reducible refine az 3 ?_); refine wpList_load_row rfl 26 (.tmp 3) rfl (w.heap.size + 2) rfl 26 (ay (eY h)) (0, 0) _ H1.out Tryz.underlying26 rfl (by rw [aO, hlen]; kernel_rfl) ?_)
    | ((with_reducible refine ag 2 28 ?_); refine aG rfl 26 (.tmp 2) (.tmp 28) rfl rfl (w.heap.size + 1) (ay (eY h)) rfl rfl 26 _ H2.out (by rw [aO, hlen]; kernel_rfl) (by rw [aO, aO, hlen, iJ]) (dK _) ?_; intro w5 o5 b5))
   exact bodyPost_ret (results_cell_row rfl _ _ (w.heap.size + 1) 26 _ (0, 0) _ rfl b5 Tryz.underlying26 rfl (by rw [aO, hlen]; kernel_rfl)) rfl ⟨rfl, hb.trans (o5.below (by simp))⟩
end
section
open Go.RowKit
theorem RZ (s : ByteArray) (hs : s.size ≤ 1000000) (w : World) :
 Calls Tryz.prog 30 #[.string s] w fun e w' => e = .returned (.string ⟨(jo s.data.toList).toArray⟩) ∧ Below w.heap.size w w' := by
 have hz := Ch s.size
 have hsl : s.data.toList.length = s.size := Array.length_toList
 have HL := qh hsl
 have XU : (119 - (s.size : Int) % 64) % 64 = (yw s.size : Nat) := by unfold yw; omega
 have HZ := qh XU
 clear hsl XU
 generalize hzz : yw s.size = z at *
 have HZZ := qh hzz
 clear hzz
 go_enter Tryz.func30, Tryz.ntmps30
 go_wp2_with fail
 rw [HZ.out, show (s.size : Int) + 1 + (119 - (s.size : Int)) % 64 + 8 = ((s.size + 1 + z + 8 : Nat) : Int) by have := HZ.out; omega]
 refine (Qp w.heap.size w.heap.size _ _ (Nat.le_refl _) (bg _ _ rfl) (by simp) (by omega)).mono ?_
 rintro e w1 ⟨rfl, g1, b1⟩
 have B1 : Below w.heap.size w w1 := ((Below.refl _ _).alloc (Nat.le_refl _) _).trans b1
 have G1 := qh g1
 clear g1 b1
 go_wp2_with fail
 refine (jc w.heap.size w.heap.size [] s _ (.inr G1.out) (by simp; omega) B1.size).mono ?_
 rintro e w2 ⟨rfl, g2, b2⟩
 have B2 := B1.trans b2
 have G2 : Hid (Lib.IsBuilder 97 5 w.heap.size w.heap.size (Lib.byteCells s.data.toList) w2) := .inr (by simpa [Lib.strCells_eq] using g2)
 clear g2 b2 G1 B1
 go_wp2_with fail
 refine (ny w.heap.size w.heap.size _ _ _ G2.out (by rw [nk, HL.out]; omega) B2.size).mono ?_
 rintro e w3 ⟨rfl, g3, b3⟩
 have B3 := B2.trans b3
 rw [byteCells_snoc _ 128 128 rfl] at g3
 have G3 : Hid (Lib.IsBuilder 97 5 w.heap.size w.heap.size (Lib.byteCells (fJ s.data.toList 0)) w3) := .inr (by simpa [fJ] using g3)
 clear g3 b3 G2 B2
 go_wp2_with fail
 go_loopw [23] (fun i wr => ∃ k : Nat, k ≤ z ∧ i = .int .i64 k ∧ Lib.IsBuilder 97 5 w.heap.size w.heap.size (Lib.byteCells (fJ s.data.toList k)) wr ∧ Below w.heap.size w wr)
  (fun i _ => z - (intOf i).toNat)
 case atStart => exact ⟨0, by omega, rfl, G3.out, B3⟩
 case round =>
  obtain ⟨k, hk, rfl, hg, hb⟩ := hrel
  have HG := qh hg
  clear hg
  by_cases hlt : k < z
  ·go_wp2_with fail
   refine (ny w.heap.size w.heap.size _ _ _ HG.out (by rw [nk, Ee, HL.out]; omega) hb.size).mono ?_
   rintro e w4 ⟨rfl, g4, b4⟩
   have B4 := hb.trans b4
   rw [byteCells_snoc _ 0 0 rfl, ← uu] at g4
   have G4 := qh g4
   clear g4 b4
   go_wp2
   go_roundw
   case rel => exact ⟨k + 1, by omega, by go_num, .inr G4.out, B4⟩
   case measure => simp [intOf]; omega
  ·have hkz : k = yw s.data.toList.length := by rw [HL.out, HZZ.out]; omega
   have HG2 : Hid (Lib.IsBuilder 97 5 w.heap.size w.heap.size (Lib.byteCells (mI s.data.toList 0)) wr) := by
    rw [show mI s.data.toList 0 = fJ s.data.toList (yw s.data.toList.length) by simp [mI], ← hkz]; exact HG.out
   clear HG hkz
   go_wp2_with fail
   go_loopw [31] (fun i wr => ∃ j : Nat, j ≤ 8 ∧ i = .int .i64 j ∧ Lib.IsBuilder 97 5 w.heap.size w.heap.size (Lib.byteCells (mI s.data.toList j)) wr ∧ Below w.heap.size w wr)
    (fun i _ => 8 - (intOf i).toNat)
   case atStart => exact ⟨0, by omega, rfl, HG2.out, hb⟩
   case round =>
    clear HG2 hb
    rename World => wq
    obtain ⟨j, hj, rfl, hg, hb⟩ := hrel
    have HG := qh hg
    clear hg
    by_cases hl : j < 8
    ·have i0 : (0 : Int) ≤ 56 - 8 * (j : Int) := by omega
     have i1 : 56 - 8 * (j : Int) ≤ 64 := by omega
     go_wp2_with fail
     refine (ny w.heap.size w.heap.size _ _ _ HG.out (by rw [nk, qH, HL.out, HZZ.out]; omega) hb.size).mono ?_
     rintro e w4 ⟨rfl, g4, b4⟩
     have B4 := hb.trans b4
     rw [byteCells_snoc _ (Kt s.data.toList.length j) _ (by rw [IP, HL.out]), ← yx] at g4
     have G4 := qh g4
     clear g4 b4
     go_wp2
     go_roundw
     case rel => exact ⟨j + 1, by omega, by go_num, .inr G4.out, B4⟩
     case measure => simp [intOf]; omega
    ·have hj8 : j = 8 := by omega
     have HG2 : Hid (Lib.IsBuilder 97 5 w.heap.size w.heap.size (Lib.byteCells (jo s.data.toList)) wq) := by
      unfold jo; rw [← hj8]; exact HG.out
     clear HG hj8
     go_wp2_with fail
     refine (oO w.heap.size w.heap.size _ _ HG2.out hb.size).mono ?_
     rintro e w5 ⟨rfl, b5⟩
     have B5 := hb.trans b5
     go_wp2
     go_ret
     exact ⟨rfl, B5⟩
end
section
open Go.RowKit
def aM (w : World) : Prop := (∀ i, i < 8 → w.cell? ⟨0, i, none⟩ = some (.int .u32 (wv (hF i)))) ∧ (∀ i, i < 64 → w.cell? ⟨1, i, none⟩ = some (.int .u32 (wv (kF i))))
theorem aM.below {B : Nat} {w w' : World} (h : aM w) (hb : Below B w w') (h0 : 0 < B) (h1 : 1 < B) : aM w' :=
 ⟨fun i hi => (hb.cell (by simpa using h0)).trans (h.1 i hi), fun i hi => (hb.cell (by simpa using h1)).trans (h.2 i hi)⟩
theorem aM.sH {w : World} (h : aM w) : 0 < w.heap.size := World.block_lt_of_cell? w _ (h.1 0 (by omega))
theorem aM.qL {w : World} (h : aM w) : 1 < w.heap.size := World.block_lt_of_cell? w _ (h.2 0 (by omega))
theorem Ul (f : Nat → BitVec 32) : bM 8 f = #[.int .u32 (wv (f 0)), .int .u32 (wv (f 1)), .int .u32 (wv (f 2)), .int .u32 (wv (f 3)), .int .u32 (wv (f 4)), .int .u32 (wv (f 5)), .int .u32 (wv (f 6)), .int .u32 (wv (f 7))] := rfl
theorem BZ (s : ByteArray) (hs : s.size ≤ 1000000) (w : World) (hR : aM w) :
 Calls Tryz.prog 14 #[.string s] w fun e w' => e = .returned (.agg (ay (lZ s.data.toList))) ∧ Below w.heap.size w w' := by
 have r0 := hR.1 0 (by omega)
 have r1 := hR.1 1 (by omega)
 have r2 := hR.1 2 (by omega)
 have r3 := hR.1 3 (by omega)
 have r4 := hR.1 4 (by omega)
 have r5 := hR.1 5 (by omega)
 have r6 := hR.1 6 (by omega)
 have r7 := hR.1 7 (by omega)
 have HR := qh hR
 have l0 := hR.sH
 have l1 := hR.qL
 clear hR
 go_enter Tryz.func14, Tryz.ntmps14
 go_wp2_with fail
 refine (RZ s hs _).mono ?_
 rintro e w1 ⟨rfl, b1⟩
 clear r0 r1 r2 r3 r4 r5 r6 r7
 have hl : s.data.toList.length = s.size := Array.length_toList
 obtain ⟨p, hp⟩ : ∃ p : ByteArray, (⟨(jo s.data.toList).toArray⟩ : ByteArray) = p := ⟨_, rfl⟩
 have hpl : p.data.toList = jo s.data.toList := by rw [← hp]
 have hps : p.size = (jo s.data.toList).length := by rw [← hp]; simp [ByteArray.size]
 have hpm := Ed s.data.toList
 have hpb : p.size ≤ 2000000 := by
  rw [hps]; have := qH s.data.toList 8; have := Ch s.data.toList.length; unfold jo; omega
 obtain ⟨m, hm⟩ : ∃ m, p.size = 64 * m := ⟨p.size / 64, by omega⟩
 rw [hp]
 have HP := qh hp
 have YQ := qh hpl
 have Wp := qh hm
 have HPS := qh hps
 have hq : (p.size : Int) / 64 = m := by omega
 have hmb : m ≤ 40000 := by omega
 have B1 : Below w.heap.size w w1 := (((Below.refl _ _).alloc (Nat.le_refl _) _).alloc (by simp) _).trans (b1.mono (by simp; omega))
 have K0 := qh (aa b1 ((ax.new w 26 (ay (List.replicate 32 0))).alloc _) (by simp; omega))
 have K1 := qh (aa b1 (bg (w := w.alloc (.cells (ay (List.replicate 32 0)) 26)) 80 (bM 8 hF) (g := w.heap.size + 1) (by simp)) (by simp))
 clear hp hpl hps hpm hm b1 hpb
 go_wp2_with fail
 clear hq
 go_loopw [12] (fun i wr => ∃ k : Nat, k ≤ m ∧ i = .int .i64 k ∧ ax wr (w.heap.size + 1) 80 (bM 8 (jD (jo s.data.toList) k)) ∧ ax wr w.heap.size 26 (ay (List.replicate 32 0)) ∧ Below w.heap.size w wr)
  (fun i _ => m - (intOf i).toNat)
 case atStart => exact ⟨0, by omega, rfl, K1.out, K0.out, B1⟩
 case round =>
  clear K0 K1 B1
  rename World => wr
  obtain ⟨k, hk, rfl, h1, h2, hb⟩ := hrel
  have H1 := qh h1
  have H2 := qh h2
  have hc : ∀ j, j < 8 → wr.cell? ⟨w.heap.size + 1, j, none⟩ = some (.int .u32 (wv (jD (jo s.data.toList) k j))) := fun j hj => by rw [h1.cell, dD _ _ _ hj]
  clear h1 h2
  by_cases hlt : k < m
  ·have c0 := hc 0 (by omega)
   have c1 := hc 1 (by omega)
   have c2 := hc 2 (by omega)
   have c3 := hc 3 (by omega)
   have c4 := hc 4 (by omega)
   have c5 := hc 5 (by omega)
   have c6 := hc 6 (by omega)
   have c7 := hc 7 (by omega)
   clear hc
   have i0 : (k : Int) * 64 + 64 ≤ 64 * m := by omega
   have i1 : IntKind.i64.wrap ((k : Int) * 64) = (k : Int) * 64 := IntWalk.i64_in _ (by omega)
   have i2 : IntKind.i64.wrap ((k : Int) + 1) = (k : Int) + 1 := IntWalk.i64_in _ (by omega)
   have i3 : IntKind.i64.wrap (((k : Int) + 1) * 64) = ((k : Int) + 1) * 64 := IntWalk.i64_in _ (by omega)
   have hsl : ∀ W, (Instr.slice 9 (.string p) (some (.int .i64 ((k : Int) * 64))) (some (.int .i64 (((k : Int) + 1) * 64))) none).run Tryz.prog W = .ok (.string (p.extract (64 * k) (64 * k + 64))) W := fun W => by
    have hh := Wp.out
    have e1 : ((k : Int) * 64).toNat = 64 * k := by omega
    have e2 : (((k : Int) + 1) * 64).toNat = 64 * k + 64 := by omega
    rw [run_slice_string_if W 9 p .i64 .i64 _ _ Tryz.underlying9, if_pos (by omega), e1, e2, if_pos (by omega)]
   go_wp2_with fail
   refine wp_region_still_tail 8 (by kernel_rfl) (by kernel_rfl) ?_
   simp only [List.take_succ_cons, List.take_zero, List.drop_succ_cons, List.drop_zero]
   repeat still_step
   refine wpStill_nil ?_
   change wpList _ _ _ _ _ wr.drew
   rw [← Ul (jD (jo s.data.toList) k)]
   clear c0 c1 c2 c3 c4 c5 c6 c7 hsl i0 i1 i2 i3
   go_wp2_with fail
   have hbs : (p.extract (64 * k) (64 * k + 64)).size = 64 := by rw [ByteArray.size_extract]; have := Wp.out; omega
   refine (Cx kF _ _ hbs _ (fun i hi => (hb.drew.cell (by simpa using l1)).trans (HR.out.2 i hi))).mono ?_
   rintro e w2 ⟨rfl, b2⟩
   have hbl : (p.extract (64 * k) (64 * k + 64)).data.toList = ql (jo s.data.toList) k := by
    rw [uM, YQ.out, show 64 * k + 64 - 64 * k = 64 by omega]; rfl
   rw [hbl]
   have B2 : Below w.heap.size w w2 := hb.drew.trans (b2.mono (by have := hb.size; simpa using this))
   have J1 := qh (aa b2 H1.out.drew H1.out.lt)
   have J2 := qh (aa b2 H2.out.drew H2.out.lt)
   clear hb H1 H2 b2 hbl hbs
   go_wp2_with ((with_reducible refine ag 3 23 ?_); refine aG rfl 80 (.tmp 3) (.tmp 23) rfl rfl (w.heap.size + 1) (bM 8 (jD (jo s.data.toList) (k + 1))) rfl rfl 80 _ J1.out (by rw [bC]; kernel_rfl) (by rw [bC, bC]) (ji _ _) ?_; intro w5 o5 b5)
   go_roundw
   case rel => exact ⟨k + 1, by omega, by go_num, b5, o5.blk J2.out (by simp), B2.trans (o5.below (by simp))⟩
   case measure => simp [intOf]; omega
  ·have hkm := qh (show k = (jo s.data.toList).length / 64 by have := Wp.out; have := HPS.out; omega)
   clear hc
   go_wp2_with ((with_reducible refine az 3 ?_); refine wpList_load_row rfl 80 (.tmp 3) rfl (w.heap.size + 1) rfl 80 (bM 8 (jD (jo s.data.toList) k)) (0, 0) _ H1.out Tryz.underlying80 rfl (by rw [bC]; kernel_rfl) ?_)
   refine (MH _ _).mono ?_
   rintro e w2 ⟨rfl, b2⟩
   have J2 := qh (aa b2 H2.out H2.out.lt)
   have B2 : Below w.heap.size w w2 := hb.trans (b2.mono hb.size)
   have hlen : (eY (jD (jo s.data.toList) k)).length = 32 := iJ _ _
   have he : eY (jD (jo s.data.toList) k) = lZ s.data.toList := by rw [hkm.out]; rfl
   have HKM := qh he
   have HLEN := qh hlen
   clear hkm he hlen H1 H2 b2 hb
   go_wp2_with ((with_reducible refine ag 2 26 ?_); refine aG rfl 26 (.tmp 2) (.tmp 26) rfl rfl w.heap.size (ay (eY (jD (jo s.data.toList) k))) rfl rfl 26 _ J2.out (by rw [aO, HLEN.out]; kernel_rfl) (by rw [aO, aO, HLEN.out]; simp) (dK _) ?_; intro w5 o5 b5)
   rw [HKM.out] at b5
   exact bodyPost_ret (results_cell_row rfl _ _ w.heap.size 26 _ (0, 0) _ rfl b5 Tryz.underlying26 rfl (by rw [aO, eO]; kernel_rfl)) rfl ⟨rfl, B2.trans (o5.below (by simp))⟩
end
section
open Go.RowKit
theorem ze (W : World) (b : Nat) (t : TypeId) (l : List UInt8) (h : ax W b t (ay l)) (hl : l.length = 32) :
 (convert 84 9 (.slice (some ⟨b, 0, none⟩) 32 32)).run Tryz.prog W = .ok (.string ⟨l.toArray⟩) W := by
 have := run_convert_bytes_back (P := Tryz.prog) W 84 9 5 ⟨b, 0, none⟩ 32 l Tryz.underlying84 Tryz.underlying5 Tryz.underlying9 (fun j hj => by
  rw [show (⟨b, 0, none⟩ : Addr).add j = ⟨b, j, none⟩ by unfold Addr.add; split <;> simp_all]
  exact (h.cell j).trans (gT l j hj))
 rw [hl] at this
 exact this
def ng (l : List UInt8) : List UInt8 := lZ (lZ l)
theorem nW (l : List UInt8) (h : l.length = 32) : (Tryz.prog.info? 26).map (·.size) = some (ay l).size := by rw [aO, h]; kernel_rfl
theorem sO (s : ByteArray) (hs : s.size ≤ 1000000) (w : World) (hR : aM w) :
 Calls Tryz.prog 33 #[.string s] w fun e w' => e = .returned (.agg (ay (ng s.data.toList))) ∧ Below w.heap.size w w' := by
 have HR := qh hR
 have l0 := hR.sH
 have l1 := hR.qL
 clear hR
 go_enter Tryz.func33, Tryz.ntmps33
 go_wp2_with fail
 refine (BZ s hs _ (HR.out.below ((Below.refl w.heap.size _).alloc (Nat.le_refl _) _) l0 l1)).mono ?_
 rintro e w1 ⟨rfl, b1⟩
 have B1 : Below w.heap.size w w1 := ((Below.refl _ _).alloc (Nat.le_refl _) _).trans (b1.mono (by simp))
 have K0 := qh (aa b1 (ax.new w 26 (ay (List.replicate 32 0))) (by simp))
 have hw1 : w.heap.size < w1.heap.size := by have := b1.size; simp at this; omega
 clear b1
 go_wp2_with ((with_reducible refine ag 3 5 ?_); refine aG rfl 26 (.tmp 3) (.tmp 5) rfl rfl w1.heap.size (ay (lZ s.data.toList)) rfl rfl 26 _ (ax.new w1 _ (ay (List.replicate 32 0))) (nW _ (eO _)) (by rw [aO, aO, eO]; simp) (dK _) ?_; intro w2 o2 b2)
 rw [ze _ _ _ _ b2 (eO _)]
 have B2 : Below w.heap.size w w2 := (B1.alloc B1.size _).trans (o2.below (by simp; exact B1.size))
 have K2 := qh (o2.blk (K0.out.alloc _) (by simp; omega))
 clear B1 K0 o2 b2
 go_wp2_with fail
 refine (BZ _ (by simp [ByteArray.size, eO]) _ (HR.out.below B2 l0 l1)).mono ?_
 rintro e w3 ⟨rfl, b3⟩
 have B3 : Below w.heap.size w w3 := B2.trans (b3.mono B2.size)
 have K3 := qh (aa b3 K2.out K2.out.lt)
 clear B2 K2 b3
 go_wp2_with ((with_reducible refine ag 2 8 ?_); refine aG rfl 26 (.tmp 2) (.tmp 8) rfl rfl w.heap.size (ay (ng s.data.toList)) rfl rfl 26 _ K3.out (nW _ (eO _)) (by rw [aO, aO]; simp [ng, eO]) (dK _) ?_; intro w5 o5 b5)
 exact bodyPost_ret (results_cell_row rfl _ _ w.heap.size 26 _ (0, 0) _ rfl b5 Tryz.underlying26 rfl (nW _ (eO _))) rfl ⟨rfl, B3.trans (o5.below (by simp))⟩
def rF (a b : List UInt8) : List UInt8 := ng (a ++ b)
theorem Nq (a b : List UInt8) (ha : a.length = 32) (hb : b.length = 32) (w : World) (hR : aM w) :
 Calls Tryz.prog 21 #[.agg (ay a), .agg (ay b)] w fun e w' => e = .returned (.agg (ay (rF a b))) ∧ Below w.heap.size w w' := by
 have HR := qh hR
 have l0 := hR.sH
 have l1 := hR.qL
 have Ha := qh ha
 have Hb := qh hb
 clear hR ha hb
 go_enter Tryz.func21, Tryz.ntmps21
 go_wp2_with fail
 obtain ⟨W, hW⟩ : ∃ W, ((w.alloc (Obj.cells (ay a) 26)).alloc (Obj.cells (ay b) 26)).alloc (Obj.cells (ay (List.replicate 32 0)) 26) = W := ⟨_, rfl⟩
 have e0 : ay (List.replicate 32 0) = (List.replicate 32 (Value.int .u8 0)).toArray := rfl
 have B0 : Below w.heap.size w W := by rw [← hW]; exact (((Below.refl _ _).alloc (Nat.le_refl _) _).alloc (by simp) _).alloc (by simp; omega) _
 have K0 : ax W w.heap.size 26 (ay a) := by rw [← hW]; exact ((ax.new _ _ _).alloc _).alloc _
 have K1 : ax W (w.heap.size + 1) 26 (ay b) := by rw [← hW]; exact (bg _ _ (by simp)).alloc _
 have K2 : ax W (w.heap.size + 1 + 1) 26 (ay (List.replicate 32 0)) := by rw [← hW]; exact bg _ _ (by simp)
 have hc1 := ze W.drew _ _ _ K0 Ha.out
 have hc2 := ze W.drew _ _ _ K1 Hb.out
 have J2 := qh K2
 clear K0 K1 K2 e0
 change Code.wp _ _ _ _ (((w.alloc (Obj.cells (ay a) 26)).alloc (Obj.cells (ay b) 26)).alloc (Obj.cells (ay (List.replicate 32 0)) 26))
 rw [hW]
 clear hW
 have hadd : ∀ V, (Op.stringOp .add ⟨a.toArray⟩ ⟨b.toArray⟩).run Tryz.prog V = .ok (.string ⟨(a ++ b).toArray⟩) V := fun V => run_string_add_lists V a b (by rw [Ha.out]; decide) (by rw [Hb.out]; decide)
 refine wp_region_still_tail 5 (by kernel_rfl) (by kernel_rfl) ?_
 simp only [List.take_succ_cons, List.take_zero, List.drop_succ_cons, List.drop_zero]
 repeat still_step
 refine wpStill_nil ?_
 change wpList _ _ _ _ _ W.drew
 clear hc1 hc2 hadd
 go_wp2_with fail
 refine (sO _ (by simp [ByteArray.size, Ha.out, Hb.out]) _ (HR.out.below B0.drew l0 l1)).mono ?_
 rintro e w3 ⟨rfl, b3⟩
 have B3 : Below w.heap.size w w3 := B0.drew.trans (b3.mono B0.size)
 have K3 := qh (aa b3 J2.out.drew J2.out.lt)
 clear B0 J2 b3
 go_wp2_with ((with_reducible refine ag 4 10 ?_); refine aG rfl 26 (.tmp 4) (.tmp 10) rfl rfl (w.heap.size + 1 + 1) (ay (rF a b)) rfl rfl 26 _ K3.out (nW _ (eO _)) (by rw [aO, aO]; simp [rF, ng, eO]) (dK _) ?_; intro w5 o5 b5)
 exact bodyPost_ret (results_cell_row rfl _ _ (w.heap.size + 1 + 1) 26 _ (0, 0) _ rfl b5 Tryz.underlying26 rfl (nW _ (eO _))) rfl ⟨rfl, B3.trans (o5.below (by simp; omega))⟩
end
section
end
section
open Go.RowKit
theorem Dq : (Tryz.prog.info? 24).map (fun i => (i.zero, i.size, i.bytes)) = some (some (.int .u32 0), 1, 4) := by kernel_rfl
end
section
def iO (f : Nat → BitVec 32) (i : Nat) : BitVec 32 :=
 if i < 16 then f i else iO f (i - 16) + Xl (iO f (i - 15)) + iO f (i - 7) + Xk (iO f (i - 2))
termination_by i
theorem Iu (f : Nat → BitVec 32) (i : Nat) (h : i < 16) : iO f i = f i := by rw [iO, if_pos h]
theorem Iw (f : Nat → BitVec 32) (i : Nat) (h : 16 ≤ i) : iO f i = iO f (i - 16) + Xl (iO f (i - 15)) + iO f (i - 7) + Xk (iO f (i - 2)) := by
 rw [iO, if_neg (by omega)]
def Dh (K W : Nat → BitVec 32) (v : Nat → BitVec 32) (i : Nat) : Nat → BitVec 32 := fun j => match j with
 | 0 => T1 (v 4) (v 5) (v 6) (v 7) (K i) (W i) + T2 (v 0) (v 1) (v 2)
 | 1 => v 0
 | 2 => v 1
 | 3 => v 2
 | 4 => v 3 + T1 (v 4) (v 5) (v 6) (v 7) (K i) (W i)
 | 5 => v 4
 | 6 => v 5
 | 7 => v 6
 | _ => 0
def Di (K W : Nat → BitVec 32) (v : Nat → BitVec 32) : Nat → Nat → BitVec 32
 | 0 => v
 | n + 1 => Dh K W (Di K W v n) n
def Ih (f : Nat → BitVec 32) (r : Nat → BitVec 32) (n : Nat) : Prop := ∀ j, n ≤ j + 16 → j < max n 16 → r (j % 16) = iO f j
theorem ring_step {f r : Nat → BitVec 32} {n : Nat} (h : Ih f r n) : Ih f (ring r n) (n + 1) ∧ ring r n (n % 16) = iO f n := by
 by_cases h16 : 16 ≤ n
 ·have hs : sched r n = iO f n := by
   rw [Iw f n h16]
   unfold sched
   have e0 := h (n - 16) (by omega) (by omega)
   have e1 := h (n - 15) (by omega) (by omega)
   have e2 := h (n - 7) (by omega) (by omega)
   have e3 := h (n - 2) (by omega) (by omega)
   rw [show (n - 16) % 16 = n % 16 by omega] at e0
   rw [e0, e1, e2, e3]
   show _ + (Xl _ + _ + Xk _) = _
   ac_rfl
  have hr : ring r n = upd r (n % 16) (sched r n) := by unfold ring; rw [if_pos h16]
  refine ⟨fun j h1 h2 => ?_, ?_⟩
  ·rw [hr]
   unfold upd
   by_cases hj : j = n
   ·subst hj; rw [if_pos rfl, hs]
   ·rw [if_neg (by omega)]
    exact h j (by omega) (by omega)
  ·rw [hr]; unfold upd; rw [if_pos rfl, hs]
 ·have hr : ring r n = r := by unfold ring; rw [if_neg h16]
  refine ⟨fun j h1 h2 => ?_, ?_⟩
  ·rw [hr]; exact h j (by omega) (by omega)
  ·rw [hr]; exact h n (by omega) (by omega)
theorem MO (K f h : Nat → BitVec 32) : ∀ n, Ih f (((St.ofHash f h).run K n).w) n ∧ ∀ j, j < 8 → ((St.ofHash f h).run K n).out j = Di K (iO f) h n j
 | 0 => ⟨fun j _ h2 => by
  have hj : j < 16 := by omega
  show f (j % 16) = _
  rw [Nat.mod_eq_of_lt hj, Iu f j hj], fun j hj => by
  match j, hj with
  | 0, _ => rfl
  | 1, _ => rfl
  | 2, _ => rfl
  | 3, _ => rfl
  | 4, _ => rfl
  | 5, _ => rfl
  | 6, _ => rfl
  | 7, _ => rfl⟩
 | n + 1 => by
  obtain ⟨hr, ho⟩ := MO K f h n
  obtain ⟨hr1, hr2⟩ := ring_step hr
  have o0 : ((St.ofHash f h).run K n).a = _ := ho 0 (by omega)
  have o1 : ((St.ofHash f h).run K n).b = _ := ho 1 (by omega)
  have o2 : ((St.ofHash f h).run K n).c = _ := ho 2 (by omega)
  have o3 : ((St.ofHash f h).run K n).d = _ := ho 3 (by omega)
  have o4 : ((St.ofHash f h).run K n).e = _ := ho 4 (by omega)
  have o5 : ((St.ofHash f h).run K n).f = _ := ho 5 (by omega)
  have o6 : ((St.ofHash f h).run K n).g = _ := ho 6 (by omega)
  have o7 : ((St.ofHash f h).run K n).h = _ := ho 7 (by omega)
  refine ⟨hr1, fun j hj => ?_⟩
  show (((St.ofHash f h).run K n).step K n).out j = Dh K (iO f) (Di K (iO f) h n) n j
  match j, hj with
  | 0, _ => show T1 _ _ _ _ _ _ + T2 _ _ _ = T1 _ _ _ _ _ _ + T2 _ _ _; rw [hr2, o0, o1, o2, o4, o5, o6, o7]
  | 1, _ => exact o0
  | 2, _ => exact o1
  | 3, _ => exact o2
  | 4, _ => show _ + T1 _ _ _ _ _ _ = _ + T1 _ _ _ _ _ _; rw [hr2, o3, o4, o5, o6, o7]
  | 5, _ => exact o4
  | 6, _ => exact o5
  | 7, _ => exact o6
theorem Ff (K f h : Nat → BitVec 32) (j : Nat) (hj : j < 8) : dA K f h j = h j + Di K (iO f) h 64 j := by
 unfold dA; rw [(MO K f h 64).2 j hj]
end
section
open Go.RowKit
theorem kU : bM 64 kF = (UE.map fun x => Value.int .u32 (wv x)).toArray := by
 unfold bM
 congr 1
theorem MR (w : World) : Calls Tryz.prog 162 #[] w fun e w' => e = .returned (.agg (bM 64 kF)) ∧ Below w.heap.size w w' := by
 go_enter Tryz.func162, Tryz.ntmps162
 go_wp2_with (refine aG rfl 126 (.tmp 0) (.tmp 1) rfl rfl w.heap.size (bM 64 kF) rfl (by rw [kU]; kernel_rfl) 126 _ (ax.new w _ _) (by rw [bC]; kernel_rfl) (by rw [bC]; simp) (ji _ _) ?_; intro w3 o3 b3)
 exact bodyPost_ret (results_cell_row rfl _ _ w.heap.size 126 _ (0, 0) _ rfl b3 Tryz.underlying126 rfl (by rw [bC]; kernel_rfl)) rfl ⟨rfl, ((Below.refl _ _).alloc (Nat.le_refl _) _).trans (o3.below (by simp))⟩
end
section
open Go.RowKit
theorem zY (k : Nat) (f : Nat → BitVec 32) : (bM (k + 1) f).toList = (bM k f).toList ++ [.int .u32 (wv (f k))] := by
 simp [bM, List.range_succ]
theorem FD (a b c d : UInt8) : bits .or .u32 (bits .or .u32 (bits .or .u32 (IntKind.u32.wrap (IntKind.u32.wrap (a.toNat : Int) * 16777216)) (IntKind.u32.wrap (IntKind.u32.wrap (b.toNat : Int) * 65536))) (IntKind.u32.wrap (IntKind.u32.wrap (c.toNat : Int) * 256))) (IntKind.u32.wrap (d.toNat : Int)) = wv (CP a b c d) := by
 simp only [IntKind.wrap_u32']
 exact Bl a b c d
theorem Cc (s : ByteArray) (hs : s.size ≤ 1000000) (w : World) :
 Calls Tryz.prog 163 #[.string s] w fun e w' => ∃ v, e = .returned v ∧ w'.ownsRow w.heap.size 24 1 v (s.size / 4) (bM (s.size / 4) (dY s.data.toList)).toList ∧ Below w.heap.size w w' := by
 obtain ⟨m, hm⟩ : ∃ m, s.size / 4 = m := ⟨_, rfl⟩
 have hm4 : 4 * m ≤ s.size := by omega
 have aaR : s.size < 4 * m + 4 := by omega
 rw [hm]
 clear hm
 go_enter Tryz.func163, Tryz.ntmps163
 go_wp2_with fail
 go_loopw [3, 4] (fun v i wr => ∃ k : Nat, k ≤ m ∧ i = .int .i64 ((4 * k : Nat) : Int) ∧ Hid (wr.ownsRow w.heap.size 24 1 v k (bM k (dY s.data.toList)).toList) ∧ Below w.heap.size w wr) (fun _ i _ => (s.size + 4) - (intOf i).toNat)
 case atStart =>
  refine ⟨0, by omega, rfl, qh ?_, (Below.refl _ _).alloc (Nat.le_refl _) _⟩
  have := World.ownsRow_lit (e := 24) (size := 1) (base := w.heap.size) w #[] 0 (Nat.le_refl _) (by unfold maxLen; omega) (by simp)
  simpa [bM] using this
 case round =>
  obtain ⟨k, hk, rfl, HO, hb⟩ := hrel
  by_cases hlt : k < m
  ·have i1 : ((4 * k : Nat) : Int) + 4 ≤ s.size := by omega
   have i0 : (0 : Int) ≤ ((4 * k : Nat) : Int) := by omega
   have i2 : ((4 * k : Nat) : Int) < s.size := by omega
   have i3 : ((4 * k : Nat) : Int) + 1 < s.size := by omega
   have i4 : ((4 * k : Nat) : Int) + 2 < s.size := by omega
   have i5 : ((4 * k : Nat) : Int) + 3 < s.size := by omega
   obtain ⟨p, hp⟩ : ∃ p : Nat, 4 * k = p := ⟨_, rfl⟩
   rw [hp] at i0 i1 i2 i3 i4 i5
   rw [hp]
   have HP := qh hp
   have WW := qh hb
   clear hp hb
   have hb0 := qh (nR s p (by omega))
   have hb1 := qh (nR s (p + 1) (by omega))
   have hb2 := qh (nR s (p + 2) (by omega))
   have hb3 := qh (nR s (p + 3) (by omega))
   have ww1 : IntKind.i64.wrap ((p : Int) + 1) = (p : Int) + 1 := IntWalk.i64_in _ (by omega)
   have ww2 : IntKind.i64.wrap ((p : Int) + 2) = (p : Int) + 2 := IntWalk.i64_in _ (by omega)
   have ww3 : IntKind.i64.wrap ((p : Int) + 3) = (p : Int) + 3 := IntWalk.i64_in _ (by omega)
   have p1 : (0 : Int) ≤ (p : Int) + 1 := by omega
   have p2 : (0 : Int) ≤ (p : Int) + 2 := by omega
   have p3 : (0 : Int) ≤ (p : Int) + 3 := by omega
   have q1 : ((p : Int) + 1).toNat = p + 1 := by omega
   have q2 : ((p : Int) + 2).toNat = p + 2 := by omega
   have q3 : ((p : Int) + 3).toNat = p + 3 := by omega
   go_wp2_with fail
   refine wp_region_any (by kernel_rfl) ?_
   change wpAny _ _ _ _ _ _ _ (World.drew _)
   refine wpAny_take (i := 0) (v := ?_) rfl (by kernel_rfl) (by kernel_rfl) (by kernel_rfl) (fun _ _ _ h => h) (Or.inl ⟨by rfl, by intro W; go_simp; try with_reducible rfl⟩) ?_
   refine wpAny_take (i := 1) (v := ?_) rfl (by kernel_rfl) (by kernel_rfl) (by kernel_rfl) (fun _ _ _ h => h) (Or.inl ⟨by rfl, by intro W; go_simp; try with_reducible rfl⟩) ?_
   refine wpAny_take (i := 2) (v := ?_) rfl (by kernel_rfl) (by kernel_rfl) (by kernel_rfl) (fun _ _ _ h => h) (Or.inl ⟨by rfl, by intro W; go_simp; try with_reducible rfl⟩) ?_
   refine wpAny_take (i := 3) (v := ?_) rfl (by kernel_rfl) (by kernel_rfl) (by kernel_rfl) (fun _ _ _ h => h) (Or.inl ⟨by rfl, by intro W; go_simp; try with_reducible rfl⟩) ?_
   refine wpAny_take (i := 4) (v := ?_) rfl (by kernel_rfl) (by kernel_rfl) (by kernel_rfl) (fun _ _ _ h => h) (Or.inl ⟨by rfl, by intro W; go_simp; try with_reducible rfl⟩) ?_
   refine wpAny_take (i := 5) (v := ?_) rfl (by kernel_rfl) (by kernel_rfl) (by kernel_rfl) (fun _ _ _ h => h) (Or.inl ⟨by rfl, by intro W; go_simp; try with_reducible rfl⟩) ?_
   refine wpAny_take (i := 6) (v := ?_) rfl (by kernel_rfl) (by kernel_rfl) (by kernel_rfl) (fun _ _ _ h => h) (Or.inl ⟨by rfl, by intro W; go_simp; try with_reducible rfl⟩) ?_
   refine wpAny_take (i := 7) (v := ?_) rfl (by kernel_rfl) (by kernel_rfl) (by kernel_rfl) (fun _ _ _ h => h) (Or.inl ⟨by rfl, by intro W; go_simp; try with_reducible rfl⟩) ?_
   refine wpAny_take (i := 8) (v := ?_) rfl (by kernel_rfl) (by kernel_rfl) (by kernel_rfl) (fun _ _ _ h => h) (Or.inl ⟨by rfl, by intro W; go_simp; try with_reducible rfl⟩) ?_
   refine wpAny_take (i := 9) (v := ?_) rfl (by kernel_rfl) (by kernel_rfl) (by kernel_rfl) (fun _ _ _ h => h) (Or.inl ⟨by rfl, by intro W; go_simp; try with_reducible rfl⟩) ?_
   refine wpAny_take (i := 10) (v := ?_) rfl (by kernel_rfl) (by kernel_rfl) (by kernel_rfl) (fun _ _ _ h => h) (Or.inl ⟨by rfl, by intro W; go_simp; try with_reducible rfl⟩) ?_
   refine wpAny_take (i := 11) (v := ?_) rfl (by kernel_rfl) (by kernel_rfl) (by kernel_rfl) (fun _ _ _ h => h) (Or.inl ⟨by rfl, by intro W; go_simp; try with_reducible rfl⟩) ?_
   refine wpAny_take (i := 12) (v := ?_) rfl (by kernel_rfl) (by kernel_rfl) (by kernel_rfl) (fun _ _ _ h => h) (Or.inl ⟨by rfl, by intro W; go_simp; try with_reducible rfl⟩) ?_
   refine wpAny_take (i := 13) (v := ?_) rfl (by kernel_rfl) (by kernel_rfl) (by kernel_rfl) (fun _ _ _ h => h) (Or.inl ⟨by rfl, by intro W; go_simp; try with_reducible rfl⟩) ?_
   refine wpAny_take (i := 14) (v := ?_) rfl (by kernel_rfl) (by kernel_rfl) (by kernel_rfl) (fun _ _ _ h => h) (Or.inl ⟨by rfl, by intro W; go_simp; try with_reducible rfl⟩) ?_
   refine wpAny_take (i := 15) (v := ?_) rfl (by kernel_rfl) (by kernel_rfl) (by kernel_rfl) (fun _ _ _ h => h) (Or.inl ⟨by rfl, by intro W; go_simp; try with_reducible rfl⟩) ?_
   refine wpAny_take (i := 16) (v := ?_) rfl (by kernel_rfl) (by kernel_rfl) (by kernel_rfl) (fun _ _ _ h => h) (Or.inl ⟨by rfl, by intro W; go_simp; try with_reducible rfl⟩) ?_
   refine wpAny_take (i := 17) (v := ?_) rfl (by kernel_rfl) (by kernel_rfl) (by kernel_rfl) (fun _ _ _ h => h) (Or.inl ⟨by rfl, by intro W; go_simp; try with_reducible rfl⟩) ?_
   refine wpAny_take (i := 18) (v := ?_) rfl (by kernel_rfl) (by kernel_rfl) (by kernel_rfl) (fun _ _ _ h => h) (Or.inl ⟨by rfl, by intro W; go_simp; try with_reducible rfl⟩) ?_
   refine wpAny_take (i := 19) (v := ?_) rfl (by kernel_rfl) (by kernel_rfl) (by kernel_rfl) (fun _ _ _ h => h) (Or.inl ⟨by rfl, by intro W; go_simp; try with_reducible rfl⟩) ?_
   refine wpAny_take (i := 20) (v := ?_) rfl (by kernel_rfl) (by kernel_rfl) (by kernel_rfl) (fun _ _ _ h => h) (Or.inl ⟨by rfl, by intro W; go_simp; try with_reducible rfl⟩) ?_
   refine wpAny_take (i := 21) (v := ?_) rfl (by kernel_rfl) (by kernel_rfl) (by kernel_rfl) (fun _ _ _ h => h) (Or.inl ⟨by rfl, by intro W; go_simp; try with_reducible rfl⟩) ?_
   refine wpAny_take (i := 22) (v := ?_) rfl (by kernel_rfl) (by kernel_rfl) (by kernel_rfl) (fun _ _ _ h => h) (Or.inl ⟨by rfl, by intro W; go_simp; try with_reducible rfl⟩) ?_
   refine wpAny_take (i := 23) (v := ?_) rfl (by kernel_rfl) (by kernel_rfl) (by kernel_rfl) (fun _ _ _ h => h) (Or.inl ⟨by rfl, by intro W; go_simp; try with_reducible rfl⟩) ?_
   refine wpAny_take (i := 24) (v := ?_) rfl (by kernel_rfl) (by kernel_rfl) (by kernel_rfl) (fun _ _ _ h => h) (Or.inl ⟨by rfl, by intro W; go_simp; try with_reducible rfl⟩) ?_
   refine wpAny_take (i := 25) (v := ?_) rfl (by kernel_rfl) (by kernel_rfl) (by kernel_rfl) (fun _ _ _ h => h) (Or.inl ⟨by rfl, by intro W; go_simp; try with_reducible rfl⟩) ?_
   go_simp
   refine wpAny_ready (rs := [26]) (by kernel_rfl) (by simp) ?_
   refine AllReady.cons rfl (fun K hK => ?_) AllReady.nil
   go_simp
   refine hK _ _ ?_
   clear hK K
   refine wpAny_ready (rs := [27]) (by kernel_rfl) (by simp) ?_
   refine AllReady.cons rfl (fun K hK => ?_) AllReady.nil
   refine mU rfl (.tmp 13) (.tmp 39) 248 rfl w.heap.size 24 _ 4 Tryz.underlying248 Dq rfl (by omega) u3 k _ (by rfl) (HO.out.drew.alloc _) wr.heap.size 1 _ (by rfl) (ax.new wr.drew _ _) rfl (by omega) (by have := WW.out.size; simp; omega) ?_
   intro v2 w2 o2 g2 _
   refine hK _ _ ?_
   clear hK K
   go_simp
   refine wpAny_ready (rs := [28]) (by kernel_rfl) (by simp) ?_
   refine AllReady.cons rfl (fun K hK => ?_) AllReady.nil
   go_simp
   refine hK _ _ ?_
   clear hK K
   refine wpAny_done (by kernel_rfl) ?_ _
   rw [FD] at o2
   have O2 := qh o2
   clear o2
   have B2 : Below w.heap.size w w2 := ((WW.out.drew).alloc (by have := WW.out.size; simpa using this) _).trans (wD g2 (HO.out.drew.alloc _) (by have := WW.out.size; simp; omega))
   have B3 := qh B2
   clear B2 g2
   go_wp2_with fail
   go_roundw
   case rel =>
    refine ⟨k + 1, by omega, by rw [← HP.out]; go_num, qh ?_, B3.out⟩
    rw [zY, show dY s.data.toList k = CP s[p] s[p + 1] s[p + 2] s[p + 3] by unfold dY; rw [HP.out, hb0.out, hb1.out, hb2.out, hb3.out]]
    exact O2.out
   case measure => simp [intOf]; omega
  ·have hkm : k = m := by omega
   subst hkm
   have hno : ¬ (((4 * k : Nat) : Int) + 4 ≤ s.size) := by omega
   clear hlt hk
   go_wp2
   go_ret
   exact ⟨_, rfl, HO.out, hb⟩
end
section
open Go.RowKit
theorem Jm (K W h : Nat → BitVec 32) (k : Nat) : Di K W h (k + 1) = Dh K W (Di K W h k) k := rfl
theorem Dn (K W v : Nat → BitVec 32) (k : Nat) : bM 8 (Dh K W v k) = #[.int .u32 (wv (T1 (v 4) (v 5) (v 6) (v 7) (K k) (W k) + T2 (v 0) (v 1) (v 2))), .int .u32 (wv (v 0)), .int .u32 (wv (v 1)), .int .u32 (wv (v 2)), .int .u32 (wv (v 3 + T1 (v 4) (v 5) (v 6) (v 7) (K k) (W k))), .int .u32 (wv (v 4)), .int .u32 (wv (v 5)), .int .u32 (wv (v 6))] := rfl
theorem pX {w : World} {base g cap k : Nat} {f : Nat → BitVec 32} (h : fM w base (.slice (some ⟨g, 0, none⟩) k cap) k (bM k f).toList) (j : Nat) (hj : j < k) : w.cell? ⟨g, j, none⟩ = some (.int .u32 (wv (f j))) :=
 h.cellAt j _ (by rw [Array.getElem?_toList, dD _ _ _ hj])
theorem ZZ (x : BitVec 32) : bits BinOp.xor IntKind.u32 (bits BinOp.xor IntKind.u32 (wv (jB x 7)) (wv (jB x 18))) (wv x / 8) = wv (Xl x) := by
 rw [u32_xor, show (8 : Int) = 2 ^ 3 from rfl, mh, u32_xor]; rfl
theorem Xe (x : BitVec 32) : bits BinOp.xor IntKind.u32 (bits BinOp.xor IntKind.u32 (wv (jB x 17)) (wv (jB x 19))) (wv x / 1024) = wv (Xk x) := by
 rw [u32_xor, show (1024 : Int) = 2 ^ 10 from rfl, mh, u32_xor]; rfl
theorem Ce (h : Nat → BitVec 32) (s : ByteArray) (hs : s.size = 64) (w : World) :
 Calls Tryz.prog 104 #[.agg (bM 8 h), .string s] w fun e w' => e = .returned (.agg (bM 8 (dA kF (dY s.data.toList) h))) ∧ Below w.heap.size w w' := by
 have HS := qh hs
 obtain ⟨f, hf⟩ : ∃ f, dY s.data.toList = f := ⟨_, rfl⟩
 rw [hf]
 have HF := qh hf
 clear hs hf
 go_enter Tryz.func104, Tryz.ntmps104
 go_wp2_with fail
 have B0 : Below w.heap.size w ((w.alloc (.cells (bM 8 h) 80)).alloc (.cells (bM 8 (fun _ => 0)) 80)) := ((Below.refl _ _).alloc (Nat.le_refl _) _).alloc (by simp) _
 refine (MR _).mono ?_
 rintro e w1 ⟨rfl, b1⟩
 have KH := qh (aa b1 ((ax.new w 80 (bM 8 h)).alloc _) (by simp; omega))
 have KR := qh (aa b1 (bg (w := w.alloc (.cells (bM 8 h) 80)) 80 (bM 8 (fun _ => 0)) (g := w.heap.size + 1) (by simp)) (by simp))
 have B1 := B0.trans (b1.mono (by simp; omega))
 clear b1 B0
 go_wp2_with ((with_reducible refine ag 5 19 ?_); refine aG rfl 126 (.tmp 5) (.tmp 19) rfl rfl w1.heap.size (bM 64 kF) rfl rfl 126 _ (ax.new w1 _ _) (by rw [bC]; kernel_rfl) (by rw [bC]; simp) (ji _ _) ?_; intro w2 o2 b2)
 have B2 := (B1.alloc B1.size _).trans (o2.below (by simp; exact B1.size))
 have KK := qh b2
 have e1 : w1.heap.size ∉ [w1.heap.size] → False := by simp
 clear e1
 have lh := KH.out.lt
 have lr := KR.out.lt
 replace KH := qh (o2.blk (KH.out.alloc _) (by simp; omega))
 replace KR := qh (o2.blk (KR.out.alloc _) (by simp; omega))
 obtain ⟨gk, hgk⟩ : ∃ g, w1.heap.size = g := ⟨_, rfl⟩
 rw [hgk] at KK lh lr
 rw [hgk]
 clear o2 b2 hgk B1
 refine (Cc s (by have := HS.out; omega) _).mono ?_
 rintro e w3 ⟨v, rfl, k3, b3⟩
 rw [show s.size / 4 = 16 by have := HS.out; omega, HF.out] at k3
 have lk := KK.out.lt
 obtain ⟨B, hB⟩ : ∃ B, w2.heap.size = B := ⟨_, rfl⟩
 rw [hB] at k3 b3 lk
 have B3 : Below w.heap.size w w3 := B2.trans (b3.mono (by have := B2.size; omega))
 have lB : B ≤ w3.heap.size := by have := b3.size; omega
 replace KH := qh (aa b3 KH.out (by omega))
 replace KR := qh (aa b3 KR.out (by omega))
 replace KK := qh (aa b3 KK.out (by omega))
 have K3 := qh k3
 have lw : w.heap.size ≤ B := by have := B2.size; omega
 clear k3 b3 hB B2
 have HB3 := qh B3
 clear B3
 go_wp2_with fail
 go_loopw [6, 7] (fun v i wr => ∃ k : Nat, 16 ≤ k ∧ k ≤ 64 ∧ i = .int .i64 k ∧ Hid (fM wr B v k (bM k (iO f)).toList ∧ ax wr w.heap.size 80 (bM 8 h) ∧ ax wr (w.heap.size + 1) 80 (bM 8 (fun _ => 0)) ∧ ax wr gk 126 (bM 64 kF) ∧ Below w.heap.size w wr ∧ B ≤ wr.heap.size))
  (fun _ i _ => 64 - (intOf i).toNat)
 case atStart =>
  refine ⟨16, by omega, by omega, rfl, qh ⟨?_, KH.out, KR.out, KK.out, HB3.out, lB⟩⟩
  rw [iC 16 (iO f) f (fun i hi => Iu f i hi)]
  exact fM.fO K3.out
 case round =>
  clear K3 KH KR KK HB3
  obtain ⟨k, hk0, hk, rfl, HK⟩ := hrel
  by_cases hlt : k < 64
  ·obtain ⟨g, cap, rfl, hgB, hg⟩ := HK.out.1.form (by omega)
   have c15 := pX HK.out.1 (k - 15) (by omega)
   have c2 := pX HK.out.1 (k - 2) (by omega)
   have c16 := pX HK.out.1 (k - 16) (by omega)
   have c7 := pX HK.out.1 (k - 7) (by omega)
   have hw := qh (Iw f k hk0)
   obtain ⟨Z6, hx⟩ : ∃ x, iO f (k - 15) = x := ⟨_, rfl⟩
   rw [hx] at c15 hw
   clear hx
   obtain ⟨x2, hx⟩ : ∃ x, iO f (k - 2) = x := ⟨_, rfl⟩
   rw [hx] at c2 hw
   clear hx
   obtain ⟨Za, hx⟩ : ∃ x, iO f (k - 16) = x := ⟨_, rfl⟩
   rw [hx] at c16 hw
   clear hx
   obtain ⟨x7, hx⟩ : ∃ x, iO f (k - 7) = x := ⟨_, rfl⟩
   rw [hx] at c7 hw
   clear hx
   have a1 : (0 : Int) ≤ (k : Int) - 15 := by omega
   have a2 : (0 : Int) ≤ (k : Int) - 2 := by omega
   have a3 : (0 : Int) ≤ (k : Int) - 16 := by omega
   have a4 : (0 : Int) ≤ (k : Int) - 7 := by omega
   have a5 : (k : Int) - 15 < k := by omega
   have a6 : (k : Int) - 2 < k := by omega
   have a7 : (k : Int) - 16 < k := by omega
   have a8 : (k : Int) - 7 < k := by omega
   have t1 : ((k : Int) - 15).toNat = k - 15 := by omega
   have t2 : ((k : Int) - 2).toNat = k - 2 := by omega
   have t3 : ((k : Int) - 16).toNat = k - 16 := by omega
   have t4 : ((k : Int) - 7).toNat = k - 7 := by omega
   have a9 : (16 : Int) ≤ k := by omega
   have a10 : (7 : Int) ≤ k := by omega
   have y3 : IntKind.i64.wrap ((k : Int) - 16) = (k : Int) - 16 := IntWalk.i64_in _ (by omega)
   have y4 : IntKind.i64.wrap ((k : Int) - 7) = (k : Int) - 7 := IntWalk.i64_in _ (by omega)
   go_wp2_with fail
   refine (lI Z6 7 (by omega) (by omega) _).mono ?_
   rintro e wa ⟨rfl, na, rfl⟩
   go_wp2_with fail
   refine (lI Z6 18 (by omega) (by omega) _).mono ?_
   rintro e wb ⟨rfl, nb, rfl⟩
   go_wp2_with fail
   refine (lI x2 17 (by omega) (by omega) _).mono ?_
   rintro e wc ⟨rfl, nc, rfl⟩
   go_wp2_with fail
   refine (lI x2 19 (by omega) (by omega) _).mono ?_
   rintro e wd ⟨rfl, nd, rfl⟩
   go_wp2_with fail
   rw [ZZ, Xe]
   obtain ⟨s0, hs0⟩ : ∃ x, Xl Z6 = x := ⟨_, rfl⟩
   obtain ⟨s1, hs1⟩ : ∃ x, Xk x2 = x := ⟨_, rfl⟩
   rw [hs0, hs1] at hw
   rw [hs0, hs1]
   clear hs0 hs1
   obtain ⟨nn, hnn⟩ : ∃ x, na + nb + nc + nd = x := ⟨_, rfl⟩
   rw [hnn]
   clear hnn
   have z1 := jk Za s0
   have z2 := jk (Za + s0) x7
   have z3 := jk (Za + s0 + x7) s1
   have Ma := qh HK.out
   clear a1 a2 a5 a6 t1 t2 c15 c2
   go_region_held3 (fun w' => w'.cell? ⟨g, k - 16, none⟩ = some (.int .u32 (wv Za)) ∧ w'.cell? ⟨g, k - 7, none⟩ = some (.int .u32 (wv x7)))
    (first | go_keep | exact ⟨(hkeep (k - 16) (by omega)).trans ((World.cell?_alloc_lt _ _ ⟨g, k - 16, none⟩ hg).trans c16), (hkeep (k - 7) (by omega)).trans ((World.cell?_alloc_lt _ _ ⟨g, k - 7, none⟩ hg).trans c7)⟩)
    ((refine zH rfl (.tmp 52) (.tmp 68) 248 rfl B 24 _ 4 Tryz.underlying248 Dq rfl (by omega) g cap k _ (by rfl) (((Ma.out.1.drewN nn).drew).alloc _) wr.heap.size 1 _ (by rfl) (ax.new (wr.drewN nn).drew _ _) rfl (by omega) (by have := Ma.out.2.2.2.2.2; simp; omega) ?_; intro v2 w2 o2 g2 hkeep))
   rw [← hw.out, ← zY] at o2
   clear z1 z2 z3
   have O2 := qh o2
   have G2 := qh g2
   clear o2 g2 hkeep
   go_wp2_with fail
   go_roundw
   case rel =>
    have gg := G2.out
    have szl := Ma.out.2.2.2.2.2
    have b2 : Below B wr w2 := ((below_drewN (Below.refl B wr) (nn + 1))).trans ((Below.refl _ _).alloc (by simpa using szl) _ |>.trans gg)
    exact ⟨k + 1, by omega, by omega, by go_num, qh ⟨O2.out, aa b2 Ma.out.2.1 (by omega), aa b2 Ma.out.2.2.1 (by omega), aa b2 Ma.out.2.2.2.1 (by omega), Ma.out.2.2.2.2.1.trans (b2.mono lw), by have := b2.size; omega⟩⟩
   case measure => simp [intOf]; omega
  ·have Vt : k = 64 := by omega
   subst Vt
   obtain ⟨gw, cap, rfl, hgB, hgw⟩ := HK.out.1.form (by omega)
   clear hk hk0 hlt
   have WN := qh HK.out.2.1
   have HW := qh (fun (j : Nat) (hj : j < 64) => pX HK.out.1 j hj)
   have YD := qh HK.out.2.2.1
   have ZF := qh HK.out.2.2.2.1
   have HB2 := qh HK.out.2.2.2.2.1
   have lr2 := HK.out.2.2.2.2.2
   have lh2 := WN.out.lt
   have lq2 := YD.out.lt
   clear HK
   go_wp2_with (first
    | ((with_reducible refine az 2 ?_); refine wpList_load_row rfl 80 (.tmp 2) rfl w.heap.size rfl 80 (bM 8 h) (0, 0) _ WN.out Tryz.underlying80 rfl (by rw [bC]; kernel_rfl) ?_)
    | ((with_reducible refine ag 12 70 ?_); refine aG rfl 80 (.tmp 12) (.tmp 70) rfl rfl wr.heap.size (bM 8 h) rfl rfl 80 _ (ax.new wr _ _) (by rw [bC]; kernel_rfl) (by rw [bC]; simp) (ji _ _) ?_; intro w4 o4 b4))
   obtain ⟨gv, hgv⟩ : ∃ g, wr.heap.size = g := ⟨_, rfl⟩
   have KV := qh b4
   replace WN := qh (o4.blk (WN.out.alloc _) (by simp; omega))
   replace YD := qh (o4.blk (YD.out.alloc _) (by simp; omega))
   replace ZF := qh (o4.blk (ZF.out.alloc _) (by simp; omega))
   replace HW := qh (fun (j : Nat) (hj : j < 64) => (o4.cell (p := ⟨gw, j, none⟩) (by simp; omega)).trans ((World.cell?_alloc_lt wr _ ⟨gw, j, none⟩ hgw).trans (HW.out j hj)))
   have WX := qh ((HB2.out.alloc HB2.out.size _).trans (o4.below (by simp; exact HB2.out.size)))
   rw [hgv] at KV hgw lr2 lh2 lq2
   rw [hgv]
   clear o4 b4 HB2 hgv
   go_loopw [13] (fun i wq => ∃ k : Nat, k ≤ 64 ∧ i = .int .i64 k ∧ Hid ((∀ j, j < 64 → wq.cell? ⟨gw, j, none⟩ = some (.int .u32 (wv (iO f j)))) ∧ ax wq w.heap.size 80 (bM 8 h) ∧ ax wq (w.heap.size + 1) 80 (bM 8 (fun _ => 0)) ∧ ax wq gk 126 (bM 64 kF) ∧ ax wq gv 80 (bM 8 (Di kF (iO f) h k)) ∧ Below w.heap.size w wq)) (fun i _ => 64 - (intOf i).toNat)
   case atStart => exact ⟨0, by omega, rfl, qh ⟨HW.out, WN.out, YD.out, ZF.out, KV.out, WX.out⟩⟩
   case round =>
    clear WN YD ZF KV WX HW
    obtain ⟨k, hk, rfl, HK⟩ := hrel
    obtain ⟨v, hv⟩ : ∃ v, Di kF (iO f) h k = v := ⟨_, rfl⟩
    rw [hv] at HK
    have HV := qh hv
    clear hv
    by_cases hlt : k < 64
    ·have cv : ∀ j, j < 8 → wr.cell? ⟨gv, j, none⟩ = some (.int .u32 (wv (v j))) := fun j hj => by rw [HK.out.2.2.2.2.1.cell j, dD _ _ _ hj]
     have c0 := cv 0 (by omega)
     have c1 := cv 1 (by omega)
     have c2 := cv 2 (by omega)
     have c3 := cv 3 (by omega)
     have c4 := cv 4 (by omega)
     have c5 := cv 5 (by omega)
     have c6 := cv 6 (by omega)
     have c7 := cv 7 (by omega)
     clear cv
     have ck : wr.cell? ⟨gk, k, none⟩ = some (.int .u32 (wv (kF k))) := by rw [HK.out.2.2.2.1.cell k, dD _ _ _ hlt]
     have cw := HK.out.1 k hlt
     obtain ⟨kc, hkc⟩ : ∃ x, kF k = x := ⟨_, rfl⟩
     rw [hkc] at ck
     have HKC := qh hkc
     obtain ⟨xw, hxw⟩ : ∃ x, iO f k = x := ⟨_, rfl⟩
     rw [hxw] at cw
     have HXW := qh hxw
     clear hkc hxw
     have i0 : (0 : Int) ≤ k := by omega
     have i1 : (k : Int) < 64 := by omega
     go_wp2_with fail
     have hq : ∀ (W : World) (x : BitVec 32) (n : Nat) (m : Int), m = n → 1 ≤ n → n ≤ 31 → ∀ nq, Calls Tryz.prog 164 #[.int .u32 (wv x), .int .i64 m] (W.drewN nq) fun e w'' => e = .returned (.int .u32 (wv (jB x n))) ∧ ∃ m, w'' = W.drewN m := fun W x n m hm h1 h2 nq => by
      subst hm
      exact (lI x n h1 h2 (W.drewN nq)).mono fun _ _ ⟨he, m, hm⟩ => ⟨he, nq + m, by rw [hm, World.drewN_drewN]⟩
     have Q1 := qh (fun nq => hq wr (v 4) 6 6 rfl (by omega) (by omega) nq)
     have Q2 := qh (fun nq => hq wr (v 4) 11 11 rfl (by omega) (by omega) nq)
     have Q3 := qh (fun nq => hq wr (v 4) 25 25 rfl (by omega) (by omega) nq)
     have HQ := qh hq
     clear hq
     have x1 := u32_xor (jB (v 4) 6) (jB (v 4) 11)
     have x2 := u32_xor (jB (v 4) 6 ^^^ jB (v 4) 11) (jB (v 4) 25)
     have x3 := jk (v 7) (jB (v 4) 6 ^^^ jB (v 4) 11 ^^^ jB (v 4) 25)
     have x4 := u32_and (v 4) (v 5)
     have x5 : bits BinOp.xor IntKind.u32 (if IntKind.u32.signed = true then -1 else IntKind.u32.max) (wv (v 4)) = wv (~~~ v 4) := BF (v 4)
     have x6 := u32_and (~~~ v 4) (v 6)
     have x7 := u32_xor (v 4 &&& v 5) (~~~ v 4 &&& v 6)
     have x8 := jk (v 7 + (jB (v 4) 6 ^^^ jB (v 4) 11 ^^^ jB (v 4) 25)) (v 4 &&& v 5 ^^^ ~~~ v 4 &&& v 6)
     have x9 := jk (v 7 + (jB (v 4) 6 ^^^ jB (v 4) 11 ^^^ jB (v 4) 25) + (v 4 &&& v 5 ^^^ ~~~ v 4 &&& v 6)) kc
     have xa := jk (v 7 + (jB (v 4) 6 ^^^ jB (v 4) 11 ^^^ jB (v 4) 25) + (v 4 &&& v 5 ^^^ ~~~ v 4 &&& v 6) + kc) xw
     go_quiet ((first
      | (go_at_call 164; with_reducible exact Q1.out _)
      | (go_at_call 164; with_reducible exact Q2.out _)
      | (go_at_call 164; with_reducible exact Q3.out _)))
     rw [show v 7 + (jB (v 4) 6 ^^^ jB (v 4) 11 ^^^ jB (v 4) 25) + (v 4 &&& v 5 ^^^ ~~~ v 4 &&& v 6) + kc + xw = T1 (v 4) (v 5) (v 6) (v 7) kc xw from rfl]
     clear x1 x2 x3 x4 x5 x6 x7 x8 x9 xa ck cw Q1 Q2 Q3
     obtain ⟨t1, ht1⟩ : ∃ t, T1 (v 4) (v 5) (v 6) (v 7) kc xw = t := ⟨_, rfl⟩
     rw [ht1]
     have HT1 := qh ht1
     clear ht1
     have Wt := qh (And.intro (fun (j : Nat) (hj : j < 64) => (show (wr.drewN nq).cell? ⟨gw, j, none⟩ = _ from HK.out.1 j hj)) (And.intro (HK.out.2.1.drewN nq) (And.intro (HK.out.2.2.1.drewN nq) (And.intro (HK.out.2.2.2.1.drewN nq) (And.intro (HK.out.2.2.2.2.1.drewN nq) (below_drewN HK.out.2.2.2.2.2 nq))))))
     obtain ⟨wz, hwz⟩ : ∃ wz, wr.drewN nq = wz := ⟨_, rfl⟩
     rw [hwz] at Wt
     have d0 : wz.cell? ⟨gv, 0, none⟩ = some (.int .u32 (wv (v 0))) := by rw [← hwz]; exact c0
     have d1 : wz.cell? ⟨gv, 1, none⟩ = some (.int .u32 (wv (v 1))) := by rw [← hwz]; exact c1
     have d2 : wz.cell? ⟨gv, 2, none⟩ = some (.int .u32 (wv (v 2))) := by rw [← hwz]; exact c2
     have d3 : wz.cell? ⟨gv, 3, none⟩ = some (.int .u32 (wv (v 3))) := by rw [← hwz]; exact c3
     have d4 : wz.cell? ⟨gv, 4, none⟩ = some (.int .u32 (wv (v 4))) := by rw [← hwz]; exact c4
     have d5 : wz.cell? ⟨gv, 5, none⟩ = some (.int .u32 (wv (v 5))) := by rw [← hwz]; exact c5
     have d6 : wz.cell? ⟨gv, 6, none⟩ = some (.int .u32 (wv (v 6))) := by rw [← hwz]; exact c6
     rw [hwz]
     clear hwz c0 c1 c2 c3 c4 c5 c6 c7 HK
     have Q1 := qh (fun nq => HQ.out wz (v 0) 2 2 rfl (by omega) (by omega) nq)
     have Q2 := qh (fun nq => HQ.out wz (v 0) 13 13 rfl (by omega) (by omega) nq)
     have Q3 := qh (fun nq => HQ.out wz (v 0) 22 22 rfl (by omega) (by omega) nq)
     have x1 := u32_xor (jB (v 0) 2) (jB (v 0) 13)
     have x2 := u32_xor (jB (v 0) 2 ^^^ jB (v 0) 13) (jB (v 0) 22)
     have x3 := u32_and (v 0) (v 1)
     have x4 := u32_and (v 0) (v 2)
     have x5 := u32_xor (v 0 &&& v 1) (v 0 &&& v 2)
     have x6 := u32_and (v 1) (v 2)
     have x7 := u32_xor (v 0 &&& v 1 ^^^ v 0 &&& v 2) (v 1 &&& v 2)
     have x8 := jk (jB (v 0) 2 ^^^ jB (v 0) 13 ^^^ jB (v 0) 22) (v 0 &&& v 1 ^^^ v 0 &&& v 2 ^^^ v 1 &&& v 2)
     go_wp2_with fail
     go_quiet ((first
      | (go_at_call 164; with_reducible exact Q1.out _)
      | (go_at_call 164; with_reducible exact Q2.out _)
      | (go_at_call 164; with_reducible exact Q3.out _)))
     rw [show (jB (v 0) 2 ^^^ jB (v 0) 13 ^^^ jB (v 0) 22) + (v 0 &&& v 1 ^^^ v 0 &&& v 2 ^^^ v 1 &&& v 2) = T2 (v 0) (v 1) (v 2) from rfl]
     clear x1 x2 x3 x4 x5 x6 x7 x8 Q1 Q2 Q3
     obtain ⟨t2, ht2⟩ : ∃ t, T2 (v 0) (v 1) (v 2) = t := ⟨_, rfl⟩
     rw [ht2]
     have HT2 := qh ht2
     clear ht2
     have y1 := mq t1 t2
     have y2 := mq (v 3) t1
     have WS := qh (And.intro (fun (j : Nat) (hj : j < 64) => (show (wz.drewN nq).cell? ⟨gw, j, none⟩ = _ from Wt.out.1 j hj)) (And.intro (Wt.out.2.1.drewN nq) (And.intro (Wt.out.2.2.1.drewN nq) (And.intro (Wt.out.2.2.2.1.drewN nq) (And.intro (Wt.out.2.2.2.2.1.drewN nq) (below_drewN Wt.out.2.2.2.2.2 nq))))))
     obtain ⟨v9, hv9⟩ : ∃ x, Dh kF (iO f) v k = x := ⟨_, rfl⟩
     have hvs := qh ((Jm kF (iO f) h k).trans (by rw [HV.out, hv9] : _ = v9))
     have hu := qh (((congrArg (bM 8) hv9.symm).trans (Dn kF (iO f) v k)).trans (by rw [HKC.out, HXW.out, HT1.out, HT2.out] : _ = #[.int .u32 (wv (t1 + t2)), .int .u32 (wv (v 0)), .int .u32 (wv (v 1)), .int .u32 (wv (v 2)), .int .u32 (wv (v 3 + t1)), .int .u32 (wv (v 4)), .int .u32 (wv (v 5)), .int .u32 (wv (v 6))]))
     clear hv9
     go_wp2_with ((with_reducible refine ag 12 153 ?_); rw [← hu.out]; refine aG rfl 80 (.tmp 12) (.tmp 153) rfl rfl gv (bM 8 v9) rfl rfl 80 _ WS.out.2.2.2.2.1 (by rw [bC]; kernel_rfl) (by rw [bC, bC]) (ji _ _) ?_; intro w5 o5 b5)
     clear y1 y2 d0 d1 d2 d3 d4 d5 d6
     go_roundw
     case rel =>
      refine ⟨k + 1, by omega, by go_num, qh ⟨fun j hj => (o5.cell (p := ⟨gw, j, none⟩) (by simp; omega)).trans (WS.out.1 j hj), o5.blk WS.out.2.1 (by simp; omega), o5.blk WS.out.2.2.1 (by simp; omega), o5.blk WS.out.2.2.2.1 (by simp; omega), ?_, WS.out.2.2.2.2.2.trans (o5.below (by simp; omega))⟩⟩
      rw [hvs.out]
      exact b5
     case measure => simp [intOf]; omega
    ·have Vt : k = 64 := by omega
     subst Vt
     clear hlt hk
     have YR := qh (And.intro HK.out.2.1 (And.intro HK.out.2.2.1 (And.intro HK.out.2.2.2.2.1 HK.out.2.2.2.2.2)))
     clear HK
     go_wp2_with fail
     go_loopw [18] (fun i wq => ∃ k : Nat, k ≤ 8 ∧ i = .int .i64 k ∧ Hid (ax wq w.heap.size 80 (bM 8 (fun j => if j < k then h j + v j else h j)) ∧ ax wq (w.heap.size + 1) 80 (bM 8 (fun _ => 0)) ∧ ax wq gv 80 (bM 8 v) ∧ Below w.heap.size w wq)) (fun i _ => 8 - (intOf i).toNat)
     case atStart =>
      refine ⟨0, by omega, rfl, qh ⟨?_, YR.out.2.1, YR.out.2.2.1, YR.out.2.2.2⟩⟩
      rw [iC 8 (fun j => if j < 0 then h j + v j else h j) h (fun i _ => by simp)]
      exact YR.out.1
     case round =>
      clear YR
      obtain ⟨k, hk, rfl, HK⟩ := hrel
      by_cases hlt : k < 8
      ·have ch : wr.cell? ⟨w.heap.size, k, none⟩ = some (.int .u32 (wv (h k))) := by
        rw [HK.out.1.cell k, dD _ _ _ hlt, if_neg (by omega)]
       have cv : wr.cell? ⟨gv, k, none⟩ = some (.int .u32 (wv (v k))) := by rw [HK.out.2.2.1.cell k, dD _ _ _ hlt]
       have i0 : (0 : Int) ≤ k := by omega
       have i1 : (k : Int) < 8 := by omega
       have x1 := jk (h k) (v k)
       go_wp2_with fail
       refine wp_region_still_tail 9 (by kernel_rfl) (by kernel_rfl) ?_
       simp only [List.take_succ_cons, List.take_zero, List.drop_succ_cons, List.drop_zero]
       repeat still_step
       refine wpStill_nil ?_
       change wpList _ _ _ _ _ wr.drew
       go_wp2_with (refine aJ rfl 24 (.tmp 166) (.tmp 165) rfl rfl w.heap.size k (.int .u32 (wv (h k + v k))) rfl rfl rfl 80 _ HK.out.1.drew (by rw [bC]; exact hlt) (by kernel_rfl) ?_; intro w6 o6 b6)
       clear x1 ch cv
       go_roundw
       case rel =>
        have b7 : ax w6 w.heap.size 80 (bM 8 (fun j => if j < k + 1 then h j + v j else h j)) := by
         rw [tC] at b6
         rw [iC 8 (fun j => if j < k + 1 then h j + v j else h j) (upd (fun j => if j < k then h j + v j else h j) k (h k + v k)) (fun i _ => ?_)]
         ·exact b6
         ·unfold upd
          by_cases h1 : i = k
          ·subst h1; simp
          ·rw [if_neg h1]
           show (if i < k + 1 then h i + v i else h i) = (if i < k then h i + v i else h i)
           by_cases h2 : i < k
           ·rw [if_pos h2, if_pos (by omega)]
           ·rw [if_neg h2, if_neg (by omega)]
        have P := qh (And.intro b7 (And.intro (o6.blk HK.out.2.1.drew (by simp)) (And.intro (o6.blk HK.out.2.2.1.drew (by simp; omega)) (HK.out.2.2.2.drew.trans (o6.below (by simp))))))
        first | exact ⟨k + 1, by omega, by go_num, P⟩ | ((repeat apply Exists.intro); exact ⟨⟨k + 1, by omega, by go_num, P⟩, rfl⟩)
       case measure => simp [intOf]; omega
      ·have hk8 : k = 8 := by omega
       subst hk8
       clear hlt hk
       have hfin : bM 8 (fun j => if j < 8 then h j + v j else h j) = bM 8 (dA kF f h) := iC 8 _ _ (fun i hi => by
        show (if i < 8 then h i + v i else h i) = _
        rw [if_pos hi, Ff kF f h i hi, HV.out])
       have HH := qh (show ax wr w.heap.size 80 (bM 8 (dA kF f h)) by rw [← hfin]; exact HK.out.1)
       have HR := qh HK.out.2.1
       have HBz := qh HK.out.2.2.2
       clear HK hfin
       go_wp2_with (first
        | ((with_reducible refine az 2 ?_); refine wpList_load_row rfl 80 (.tmp 2) rfl w.heap.size rfl 80 (bM 8 (dA kF f h)) (0, 0) _ HH.out Tryz.underlying80 rfl (by rw [bC]; kernel_rfl) ?_)
        | ((with_reducible refine ag 4 167 ?_); refine aG rfl 80 (.tmp 4) (.tmp 167) rfl rfl (w.heap.size + 1) (bM 8 (dA kF f h)) rfl rfl 80 _ HR.out (by rw [bC]; kernel_rfl) (by rw [bC, bC]) (ji _ _) ?_; intro w7 o7 b7))
       exact bodyPost_ret (results_cell_row rfl _ _ (w.heap.size + 1) 80 _ (0, 0) _ rfl b7 Tryz.underlying80 rfl (by rw [bC]; kernel_rfl)) rfl ⟨rfl, HBz.out.trans (o7.below (by simp))⟩
end
section
open Go.RowKit
theorem yu : (Tryz.prog.info? 5).map (fun i => (i.zero, i.size, i.bytes)) = some (some (.int .u8 0), 1, 1) := by kernel_rfl
def XJ : Value → Nat
 | .slice _ n _ => n
 | _ => 0
theorem La {w : World} {base : Nat} {v : Value} {n : Nat} {l : List UInt8} (h : fM w base v n (Lib.byteCells l)) :
 (convert 84 9 v).run Tryz.prog w = .ok (.string ⟨l.toArray⟩) w := by
 have hn : n = l.length := by have := h.1; simpa [Lib.byteCells] using this.symm
 subst hn
 rcases h.2 with ⟨rfl, hn⟩ | ⟨g, cap, rfl, _, _, _, _, hc, _⟩
 ·have hl : l = [] := List.eq_nil_of_length_eq_zero hn
  subst hl
  rw [run_convert_bytes_string w _ _ 5 none 0 0 Tryz.underlying84 Tryz.underlying5 Tryz.underlying9]
  rfl
 ·refine run_convert_bytes_back (P := Tryz.prog) w 84 9 5 ⟨g, 0, none⟩ cap l Tryz.underlying84 Tryz.underlying5 Tryz.underlying9 (fun j hj => ?_)
  rw [show (⟨g, 0, none⟩ : Addr).add j = ⟨g, j, none⟩ by unfold Addr.add; split <;> simp_all]
  exact hc j _ (by simp [Lib.byteCells, hj])
theorem Gm (s : ByteArray) (hs : s.size ≤ 1000000) (w : World) :
 Calls Tryz.prog 103 #[.string s] w fun e w' => e = .returned (.string ⟨(jo s.data.toList).toArray⟩) ∧ Below w.heap.size w w' := by
 have hcv := run_bytes_of_string (P := Tryz.prog) w 9 84 5 s Tryz.underlying9 Tryz.underlying84 Tryz.underlying5
 have hc1 := grownCap_ge w s.size 0 5
 have hc2 := grownCap_le_maxLen w s.size 0 5 (by unfold maxLen; omega)
 obtain ⟨cap, hcap⟩ : ∃ cap, grownCap w s.size 0 5 = cap := ⟨_, rfl⟩
 rw [hcap] at hcv hc1 hc2
 clear hcap
 have S0 := fM.NC w 5 s w.heap.size cap (Nat.le_refl _) hc1 hc2
 have B0 : Below w.heap.size w (w.drew.alloc (.cells (bytesRow s cap) 5 ((bytesRow s cap).size, (bytesRow s cap).size + 1))) := (Below.refl _ _).drew.alloc (by simp) _
 obtain ⟨w0, hw0⟩ : ∃ w0, w.drew.alloc (.cells (bytesRow s cap) 5 ((bytesRow s cap).size, (bytesRow s cap).size + 1)) = w0 := ⟨_, rfl⟩
 rw [hw0] at hcv S0 B0
 clear hw0 hc1 hc2
 have HL := qh (show s.data.toList.length = s.size from Array.length_toList)
 obtain ⟨z, hz⟩ : ∃ z, yw s.data.toList.length = z := ⟨_, rfl⟩
 have hz2 : z = (119 - s.size % 64) % 64 := by rw [← hz, HL.out]; rfl
 have hz3 : z < 64 := by rw [hz2]; omega
 have HZ := qh hz
 have HZ2 := qh hz2
 have HS0 := qh S0
 have HB0 := qh B0
 clear hz hz2 S0 B0
 go_enter Tryz.func103, Tryz.ntmps103
 go_wp2_with (at_builtin; refine j4 rfl (.tmp 8) (.tmp 9) 84 rfl w.heap.size 5 _ 1 Tryz.underlying84 yu rfl (by omega) _ _ _ rfl (HS0.out.alloc _) w0.heap.size 1 (.int .u8 128) rfl (ax.new w0 _ _) rfl (by omega) (by have := HB0.out.size; simp; omega) ?_; intro v1 w1 s1 b1)
 clear hcv
 have S1 : Hid (fM w1 w.heap.size v1 (s.size + 1 + 0) (Lib.byteCells (fJ s.data.toList 0))) := qh (by
  have e : Lib.byteCells (fJ s.data.toList 0) = (s.data.toList.map fun b => Value.int .u8 (b.toNat : Int)) ++ [.int .u8 128] := by simp [fJ, Lib.byteCells]
  rw [e]; exact s1)
 have B1 : Below w.heap.size w w1 := (HB0.out.alloc HB0.out.size _).trans b1
 clear s1 b1
 go_loopw [3] (fun v wr => ∃ k : Nat, k ≤ z ∧ Hid (fM wr w.heap.size v (s.size + 1 + k) (Lib.byteCells (fJ s.data.toList k))) ∧ Below w.heap.size w wr) (fun v _ => (s.size + 1 + z) - XJ v)
 case atStart => exact ⟨0, by omega, S1, B1⟩
 case round =>
  clear S1 B1
  obtain ⟨k, hk, HS, hb⟩ := hrel
  obtain ⟨A, c, rfl, _⟩ := HS.out.reads
  have Ky : (s.size + 1 + k) % 64 = 56 ↔ k = z := by have := HZ2.out; omega
  obtain ⟨n, hn⟩ : ∃ n, s.size + 1 + k = n := ⟨_, rfl⟩
  rw [hn] at Ky HS
  rw [hn]
  have HN := qh hn
  have hn9 : n ≤ 2000000 := by omega
  clear hn
  by_cases hlt : k < z
  ·have ht : (((n : Int) % 64) != 56) = true := by rw [bne_iff_ne]; omega
   clear Ky
   have HB := qh hb
   clear hb
   go_wp2_with (at_builtin; refine j4 rfl (.tmp 15) (.tmp 16) 84 rfl w.heap.size 5 _ 1 Tryz.underlying84 yu rfl (by omega) _ _ _ rfl (HS.out.alloc _) wr.heap.size 1 (.int .u8 0) rfl (ax.new wr _ _) rfl (by omega) (by have := HB.out.size; simp; omega) ?_; intro v2 w2 s2 b2)
   go_roundw
   case rel =>
    refine ⟨k + 1, by omega, qh ?_, (HB.out.alloc HB.out.size _).trans b2⟩
    rw [uu, show s.size + 1 + (k + 1) = n + 1 by have := HN.out; omega, show Lib.byteCells (fJ s.data.toList k ++ [0]) = Lib.byteCells (fJ s.data.toList k) ++ [.int .u8 0] by simp [Lib.byteCells]]
    exact s2
   case measure =>
    obtain ⟨A2, c2, rfl, _⟩ := s2.reads
    have := HN.out
    simp [XJ]; omega
  ·have hkz : k = z := by omega
   have ht : (((n : Int) % 64) != 56) = false := by rw [bne_eq_false_iff_eq]; omega
   have HS2 : Hid (fM wr w.heap.size (.slice A n c) (n + 0) (Lib.byteCells (mI s.data.toList 0))) := qh (by
    rw [show mI s.data.toList 0 = fJ s.data.toList (yw s.data.toList.length) by simp [mI], HZ.out, ← hkz]; exact HS.out)
   subst hkz
   clear Ky hlt hk HS
   go_wp2_with fail
   go_loopw [3, 5] (fun v i wq => ∃ m : Nat, m ≤ 8 ∧ i = .int .i64 ((m : Int) - 1) ∧ Hid (fM wq w.heap.size v (n + (8 - m)) (Lib.byteCells (mI s.data.toList (8 - m)))) ∧ Below w.heap.size w wq) (fun _ i _ => (intOf i + 1).toNat)
   case atStart => exact ⟨8, by omega, rfl, HS2, hb⟩
   case round =>
    obtain ⟨m, hm, rfl, HT, hb2⟩ := hrel
    by_cases hl : 0 < m
    ·obtain ⟨q, rfl⟩ : ∃ q, m = q + 1 := ⟨m - 1, by omega⟩
     have hq1 : ((q + 1 : Nat) : Int) - 1 = q := by omega
     rw [hq1]
     clear hq1
     have HB2 := qh hb2
     clear hb2
     have i0 : (0 : Int) ≤ 8 * (q : Int) := by omega
     have i1 : 8 * (q : Int) ≤ 64 := by omega
     have hlen := IP s.data.toList.length (8 - (q + 1))
     rw [HL.out, show 56 - 8 * (8 - (q + 1)) = 8 * q by omega] at hlen
     have HLEN := qh hlen
     clear hlen
     go_wp2_with (at_builtin; refine j4 rfl (.tmp 26) (.tmp 32) 84 rfl w.heap.size 5 _ 1 Tryz.underlying84 yu rfl (by omega) _ _ _ rfl (HT.out.alloc _) wr.heap.size 1 _ rfl (ax.new wr _ _) rfl (by omega) (by have := HB2.out.size; simp; omega) ?_; intro v2 w2 s2 b2)
     go_roundw
     case rel =>
      refine ⟨q, by omega, by go_num, qh ?_, (HB2.out.alloc HB2.out.size _).trans b2⟩
      rw [byteCells_snoc _ (Kt s.data.toList.length (8 - (q + 1))) _ (by rw [HL.out, HLEN.out, Int.mul_comm]), ← yx, show 8 - (q + 1) + 1 = 8 - q by omega, show n + (8 - (q + 1)) + 1 = n + (8 - q) by omega] at s2
      exact s2
     case measure => simp [intOf]
    ·have hm0 : m = 0 := by omega
     subst hm0
     have hcv := La HT.out
     clear hl hm
     go_wp2
     go_ret
     exact ⟨rfl, hb2⟩
end
section
open Go.RowKit
theorem hU : bM 8 hF = (UJ.map fun x => Value.int .u32 (wv x)).toArray := by
 unfold bM
 congr 1
theorem xX (s : ByteArray) (hs : s.size ≤ 1000000) (w : World) :
 Calls Tryz.prog 63 #[.string s] w fun e w' => e = .returned (.agg (ay (lZ s.data.toList))) ∧ Below w.heap.size w w' := by
 go_enter Tryz.func63, Tryz.ntmps63
 go_wp2_with ((with_reducible refine ag 3 8 ?_); refine aG rfl 80 (.tmp 3) (.tmp 8) rfl rfl (w.heap.size + 1) (bM 8 hF) rfl (by rw [hU]; kernel_rfl) 80 _ (bg (g := w.heap.size + 1) _ _ (by simp)) (by rw [bC]; kernel_rfl) (by rw [bC]; simp) (ji _ _) ?_; intro w2 o2 b2)
 have B2 : Below w.heap.size w w2 := (((Below.refl _ _).alloc (Nat.le_refl _) _).alloc (by simp) _).trans (o2.below (by simp))
 have KH := qh b2
 have KR := qh (o2.blk ((ax.new w 26 (ay (List.replicate 32 0))).alloc _) (by simp))
 clear o2 b2
 refine (Gm s hs _).mono ?_
 rintro e w3 ⟨rfl, b3⟩
 have hl : s.data.toList.length = s.size := Array.length_toList
 obtain ⟨P, hP⟩ : ∃ P, jo s.data.toList = P := ⟨_, rfl⟩
 rw [hP]
 obtain ⟨p, hp⟩ : ∃ p : ByteArray, (⟨P.toArray⟩ : ByteArray) = p := ⟨_, rfl⟩
 rw [hp]
 have hpl : p.data.toList = P := by rw [← hp]
 have hps : p.size = P.length := by rw [← hp]; simp [ByteArray.size]
 have hpm : P.length % 64 = 0 := by rw [← hP]; exact Ed s.data.toList
 have hpb : p.size ≤ 2000000 := by
  rw [hps, ← hP]; have := qH s.data.toList 8; have := Ch s.data.toList.length; unfold jo; omega
 obtain ⟨m, hm⟩ : ∃ m, p.size = 64 * m := ⟨p.size / 64, by omega⟩
 have HP := qh hP
 have YQ := qh hpl
 have Wp := qh hm
 have HPS := qh hps
 have hmb : m ≤ 40000 := by omega
 have B3 := B2.trans (b3.mono B2.size)
 replace KH := qh (aa b3 KH.out KH.out.lt)
 replace KR := qh (aa b3 KR.out KR.out.lt)
 have HB := qh B3
 clear hP hp hpl hps hpm hm b3 B2 B3 hl hpb
 go_wp2_with fail
 go_loopw [5] (fun i wr => ∃ k : Nat, k ≤ m ∧ i = .int .i64 ((64 * k : Nat) : Int) ∧ Hid (ax wr (w.heap.size + 1) 80 (bM 8 (jD P k)) ∧ ax wr w.heap.size 26 (ay (List.replicate 32 0)) ∧ Below w.heap.size w wr))
  (fun i _ => (64 * m + 64) - (intOf i).toNat)
 case atStart => exact ⟨0, by omega, rfl, qh ⟨KH.out, KR.out, HB.out⟩⟩
 case round =>
  clear KH KR HB
  obtain ⟨k, hk, rfl, HK⟩ := hrel
  obtain ⟨q, hq⟩ : ∃ q : Nat, 64 * k = q := ⟨_, rfl⟩
  rw [hq]
  have HQ := qh hq
  have hq9 : q ≤ 3000000 := by omega
  by_cases hlt : k < m
  ·have hc : ∀ j, j < 8 → wr.cell? ⟨w.heap.size + 1, j, none⟩ = some (.int .u32 (wv (jD P k j))) := fun j hj => by rw [HK.out.1.cell, dD _ _ _ hj]
   have c0 := hc 0 (by omega)
   have c1 := hc 1 (by omega)
   have c2 := hc 2 (by omega)
   have c3 := hc 3 (by omega)
   have c4 := hc 4 (by omega)
   have c5 := hc 5 (by omega)
   have c6 := hc 6 (by omega)
   have c7 := hc 7 (by omega)
   clear hc
   have hle : (q : Int) + 64 ≤ p.size := by have := Wp.out; omega
   have i2 : IntKind.i64.wrap ((q : Int) + 64) = (q : Int) + 64 := IntWalk.i64_in _ (by omega)
   have hsl : ∀ W, (Instr.slice 9 (.string p) (some (.int .i64 (q : Int))) (some (.int .i64 ((q : Int) + 64))) none).run Tryz.prog W = .ok (.string (p.extract q (q + 64))) W := fun W => by
    have e2 : ((q : Int) + 64).toNat = q + 64 := by omega
    rw [run_slice_string_if W 9 p .i64 .i64 _ _ Tryz.underlying9, if_pos (by omega), e2, if_pos (by omega)]
    rfl
   clear hq
   go_wp2_with fail
   refine wp_region_still_tail 6 (by kernel_rfl) (by kernel_rfl) ?_
   simp only [List.take_succ_cons, List.take_zero, List.drop_succ_cons, List.drop_zero]
   repeat still_step
   refine wpStill_nil ?_
   change wpList _ _ _ _ _ wr.drew
   rw [← Ul (jD P k)]
   clear c0 c1 c2 c3 c4 c5 c6 c7 hsl i2
   go_wp2_with fail
   have hbs : (p.extract q (q + 64)).size = 64 := by rw [ByteArray.size_extract]; omega
   refine (Ce _ _ hbs _).mono ?_
   rintro e w5 ⟨rfl, b5⟩
   have hbl : (p.extract q (q + 64)).data.toList = ql P k := by
    rw [uM, YQ.out, show q + 64 - q = 64 by omega, ← HQ.out]; rfl
   rw [hbl, show dA kF (dY (ql P k)) (jD P k) = jD P (k + 1) from rfl]
   have B5 : Below w.heap.size w w5 := HK.out.2.2.drew.trans (b5.mono (by have := HK.out.2.2.size; simpa using this))
   have J1 := qh (aa b5 HK.out.1.drew HK.out.1.lt)
   have J2 := qh (aa b5 HK.out.2.1.drew HK.out.2.1.lt)
   clear b5 hbl hbs
   go_wp2_with ((with_reducible refine ag 3 24 ?_); refine aG rfl 80 (.tmp 3) (.tmp 24) rfl rfl (w.heap.size + 1) (bM 8 (jD P (k + 1))) rfl rfl 80 _ J1.out (by rw [bC]; kernel_rfl) (by rw [bC, bC]) (ji _ _) ?_; intro w6 o6 b6)
   go_roundw
   case rel =>
    have Z := qh (And.intro b6 (And.intro (o6.blk J2.out (by simp)) (B5.trans (o6.below (by simp)))))
    exact ⟨k + 1, by omega, by rw [← HQ.out]; go_num, Z⟩
   case measure => have := HQ.out; simp [intOf]; omega
  ·have hno : ¬ ((q : Int) + 64 ≤ p.size) := by have := Wp.out; omega
   have hkm : k = P.length / 64 := by have := Wp.out; have := HPS.out; omega
   have HSL := qh (show eY (jD P k) = lZ s.data.toList by unfold lZ; rw [HP.out, hkm])
   obtain ⟨H, hH⟩ : ∃ H, jD P k = H := ⟨_, rfl⟩
   rw [hH] at HK HSL
   clear hkm hH hlt hk hq
   have KH := qh HK.out.1
   have KR := qh HK.out.2.1
   have HB := qh HK.out.2.2
   clear HK
   go_wp2_with ((with_reducible refine ag 6 25 ?_); refine aG rfl 26 (.tmp 6) (.tmp 25) rfl rfl wr.heap.size (ay (List.replicate 32 0)) rfl rfl 26 _ (ax.new wr _ (ay (List.replicate 32 0))) (by rw [aO, List.length_replicate]; kernel_rfl) rfl (dK _) ?_; intro w7 o7 b7)
   have lr := KR.out.lt
   have lh := KH.out.lt
   replace KH := qh (o7.blk (KH.out.alloc _) (by simp; omega))
   replace KR := qh (o7.blk (KR.out.alloc _) (by simp; omega))
   have KO := qh b7
   have UZ := qh ((HB.out.alloc HB.out.size _).trans (o7.below (by simp; exact HB.out.size)))
   obtain ⟨go, hgo⟩ : ∃ g, wr.heap.size = g := ⟨_, rfl⟩
   rw [hgo] at KO lr lh
   rw [hgo]
   clear o7 b7 hgo HB hno
   go_loopw [7] (fun i wq => ∃ j : Nat, j ≤ 32 ∧ i = .int .i64 j ∧ Hid (ax wq go 26 (ay (tab 32 fun i => if i < j then byteOf (H (i / 4)) (i % 4) else 0)) ∧ ax wq (w.heap.size + 1) 80 (bM 8 H) ∧ ax wq w.heap.size 26 (ay (List.replicate 32 0)) ∧ Below w.heap.size w wq)) (fun i _ => 32 - (intOf i).toNat)
   case atStart => exact ⟨0, by omega, rfl, qh ⟨(show ay (tab 32 fun i => if i < 0 then byteOf (H (i / 4)) (i % 4) else 0) = ay (List.replicate 32 0) by simp [tab]; rfl) ▸ KO.out, KH.out, KR.out, UZ.out⟩⟩
   case round =>
    clear KO KH KR UZ
    obtain ⟨j, hj, rfl, HK⟩ := hrel
    by_cases hl : j < 32
    ·have hin : j < (tab 32 fun i => if i < j then byteOf (H (i / 4)) (i % 4) else 0).length := by rw [iJ]; omega
     obtain ⟨old, hc⟩ : ∃ old, wr.cell? ⟨go, j, none⟩ = some old := ⟨_, (HK.out.1.cell _).trans (gT _ _ hin)⟩
     have hf : wr.frozen? ⟨go, j, none⟩ = false := HK.out.1.frozen _
     have ch : wr.cell? ⟨w.heap.size + 1, j / 4, none⟩ = some (.int .u32 (wv (H (j / 4)))) := by rw [HK.out.2.1.cell, dD _ _ _ (by omega)]
     have Ma := qh HK.out
     clear HK hin
     obtain ⟨r, hr⟩ : ∃ r, j % 4 = r := ⟨_, rfl⟩
     have hr4 : r < 4 := by omega
     have e1 : (j : Int) % 4 = r := by omega
     obtain ⟨d, hd⟩ : ∃ d, j / 4 = d := ⟨_, rfl⟩
     have pO : d < 8 := by omega
     have e2 : (j : Int) / 4 = d := by omega
     rw [hd] at ch
     have HR4 := qh hr
     have HD := qh hd
     clear hr hd
     have i0 : (0 : Int) ≤ 24 - 8 * (r : Int) := by omega
     have i1 : 24 - 8 * (r : Int) ≤ 32 := by omega
     have i2 : (0 : Int) ≤ d := by omega
     have i3 : (d : Int) < 8 := by omega
     have i4 : (0 : Int) ≤ j := by omega
     have i5 : (j : Int) < 32 := by omega
     go_wp2
     go_roundw
     case rel =>
      have hh := Ma.out.1.zI j (.int .u8 ((byteOf (H d) r).toNat : Int))
      rw [sP, xk 32 _ (fun i => if i < j + 1 then byteOf (H (i / 4)) (i % 4) else 0) _ _ (fun i hi => by
       by_cases e : i = j
       ·subst e
        rw [if_pos (by omega), if_pos rfl, HD.out, HR4.out]
       ·rw [if_neg e]
        by_cases l : i < j
        ·rw [if_pos l, if_pos (by omega)]
        ·rw [if_neg l, if_neg (by omega)])] at hh
      rw [mh, Bi]
      exact ⟨j + 1, by omega, by go_num, qh ⟨hh, Ma.out.2.1.far (by simp; omega) _, Ma.out.2.2.1.far (by simp; omega) _, Ma.out.2.2.2.setCell (by simp; omega) _⟩⟩
     case measure => simp [intOf]; omega
    ·have h1' : ax wr go 26 (ay (eY H)) := by
      unfold eY
      rw [qE 32 (fun j => byteOf (H (j / 4)) (j % 4)) (fun i => if i < j then byteOf (H (i / 4)) (i % 4) else 0) (fun i hi => (if_pos (by omega)).symm)]
      exact HK.out.1
     rw [HSL.out] at h1'
     have H1 := qh h1'
     have H2 := qh HK.out.2.2.1
     have HB := qh HK.out.2.2.2
     have hlen : (lZ s.data.toList).length = 32 := iJ _ _
     have zB := qh hlen
     clear HK h1' hlen
     go_wp2_with (first
      | ((with_reducible refine az 6 ?_); refine wpList_load_row rfl 26 (.tmp 6) rfl go rfl 26 (ay (lZ s.data.toList)) (0, 0) _ H1.out Tryz.underlying26 rfl (by rw [aO, zB.out]; kernel_rfl) ?_)
      | ((with_reducible refine ag 2 42 ?_); refine aG rfl 26 (.tmp 2) (.tmp 42) rfl rfl w.heap.size (ay (lZ s.data.toList)) rfl rfl 26 _ H2.out (by rw [aO, zB.out]; kernel_rfl) (by rw [aO, aO, zB.out]; simp) (dK _) ?_; intro w8 o8 b8))
     exact bodyPost_ret (results_cell_row rfl _ _ w.heap.size 26 _ (0, 0) _ rfl b8 Tryz.underlying26 rfl (by rw [aO, zB.out]; kernel_rfl)) rfl ⟨rfl, HB.out.trans (o8.below (by simp))⟩
end
section
open Go.RowKit
theorem JK : (Tryz.prog.info? 5).map (fun i => (i.zero, i.size, i.bytes)) = some (some (.int .u8 0), 1, 1) := by kernel_rfl
theorem mV (l : List UInt8) (hl : l.length = 32) (w : World) :
 Calls Tryz.prog 35 #[.agg (ay l)] w fun e w' => e = .returned (.string ⟨l.toArray⟩) ∧ Below w.heap.size w w' := by
 have HL := qh hl
 clear hl
 go_enter Tryz.func35, Tryz.ntmps35
 go_wp2_with fail
 go_loopw [3, 4] (fun v i wr => ∃ j : Nat, j ≤ 32 ∧ i = .int .i64 j ∧ wr.ownsRow (w.heap.size + 1) 5 1 v j (Lib.byteCells (l.take j)) ∧ ax wr w.heap.size 26 (ay l) ∧ Below w.heap.size w wr ∧ w.heap.size + 1 ≤ wr.heap.size)
  (fun _ i _ => 32 - (intOf i).toNat)
 case atStart =>
  refine ⟨0, by omega, rfl, ?_, (ax.new _ _ _).alloc _, ((Below.refl _ _).alloc (Nat.le_refl _) _).alloc (by simp) _, by simp⟩
  have := World.ownsRow_lit (e := 5) (size := 1) (base := w.heap.size + 1) (w.alloc (.cells (ay l) 26)) #[] 0 (by simp) (by unfold maxLen; omega) (by simp)
  simpa [Lib.byteCells] using this
 case round =>
  obtain ⟨j, hj, rfl, hown, hk, hb, hs⟩ := hrel
  have HO := qh hown
  have HK := qh hk
  by_cases hlt : j < 32
  ·have hlj : j < l.length := by rw [HL.out]; exact hlt
   have hc : wr.cell? ⟨w.heap.size, j, none⟩ = _ := (hk.cell _).trans (gT l j hlj)
   clear hown hk
   go_wp2_with (at_builtin; refine xG rfl (.tmp 10) (.tmp 14) 84 rfl (w.heap.size + 1) 5 _ 1 Tryz.underlying84 JK rfl (by omega) _ _ _ rfl (HO.out.alloc _) _ 1 (.int .u8 (l[j].toNat : Int)) rfl (ax.new _ _ _) rfl (by omega) (by simp; omega) ?_; intro v' w' o' b')
   go_roundw
   case rel =>
    refine ⟨j + 1, by omega, by go_num, ?_, aa b' (HK.out.alloc _) (by omega), (hb.alloc hb.size _).trans (b'.mono (by omega)), by have := b'.size; simp at this; omega⟩
    rw [show Lib.byteCells (l.take (j + 1)) = Lib.byteCells (l.take j) ++ [.int .u8 (l[j].toNat : Int)] by rw [List.take_succ_eq_append_getElem hlj]; unfold Lib.byteCells; rw [List.map_append]; rfl]
    exact o'
   case measure => simp [intOf]; omega
  ·have Vu : j = 32 := by omega
   subst Vu
   have UI := PZ (w := wr) (base := w.heap.size + 1) (v := u3) (l := l) (by have := HO.out; rw [List.take_of_length_le (by rw [HL.out]; omega)] at this; rw [HL.out]; exact this)
   clear hown hk HO HK
   go_wp2
   go_ret
   exact ⟨rfl, hb⟩
end
section
open Go.RowKit
theorem Ep (l : List UInt8) : (⟨l.toArray⟩ : ByteArray).size = l.length := by simp [ByteArray.size]
theorem zK (s : ByteArray) (hs : s.size ≤ 1000000) (w : World) :
 Calls Tryz.prog 34 #[.string s] w fun e w' => e = .returned (.agg (ay (ng s.data.toList))) ∧ Below w.heap.size w w' := by
 go_enter Tryz.func34, Tryz.ntmps34
 go_wp2_with fail
 have B0 : Below w.heap.size w (w.alloc (.cells (ay (List.replicate 32 0)) 26)) := (Below.refl _ _).alloc (Nat.le_refl _) _
 refine (xX s hs _).mono ?_
 rintro e w1 ⟨rfl, b1⟩
 have KR := qh (aa b1 (ax.new w 26 (ay (List.replicate 32 0))) (by simp))
 have B1 := B0.trans (b1.mono (by simp))
 clear b1 B0
 go_wp2_with fail
 refine (mV _ (eO _) _).mono ?_
 rintro e w2 ⟨rfl, b2⟩
 have B2 := B1.trans (b2.mono B1.size)
 replace KR := qh (aa b2 KR.out KR.out.lt)
 clear b2 B1
 obtain ⟨q, hq⟩ : ∃ q : ByteArray, (⟨(lZ s.data.toList).toArray⟩ : ByteArray) = q := ⟨_, rfl⟩
 rw [hq]
 have XV : q.data.toList = lZ s.data.toList := by rw [← hq]
 have WK : q.size ≤ 1000000 := by rw [← hq, Ep, eO]; omega
 have HQ := qh XV
 clear hq XV
 go_wp2_with fail
 refine (xX q WK _).mono ?_
 rintro e w3 ⟨rfl, b3⟩
 have B3 := B2.trans (b3.mono B2.size)
 replace KR := qh (aa b3 KR.out KR.out.lt)
 rw [HQ.out, show lZ (lZ s.data.toList) = ng s.data.toList from rfl]
 have zB := qh (show (ng s.data.toList).length = 32 from eO _)
 clear b3 B2
 go_wp2_with ((with_reducible refine ag 2 6 ?_); refine aG rfl 26 (.tmp 2) (.tmp 6) rfl rfl w.heap.size (ay (ng s.data.toList)) rfl rfl 26 _ KR.out (by rw [aO, zB.out]; kernel_rfl) (by rw [aO, aO, zB.out]; simp) (dK _) ?_; intro w8 o8 b8)
 exact bodyPost_ret (results_cell_row rfl _ _ w.heap.size 26 _ (0, 0) _ rfl b8 Tryz.underlying26 rfl (by rw [aO, zB.out]; kernel_rfl)) rfl ⟨rfl, B3.trans (o8.below (by simp))⟩
theorem vM {w w' : World} {g : Nat} {t : TypeId} (hb : Below w.heap.size w w') (h : ∃ cs : Array Value, cs.size = 32 ∧ ax w g t cs) : ∃ cs : Array Value, cs.size = 32 ∧ ax w' g t cs := by
 obtain ⟨cs, h1, h2⟩ := h
 exact ⟨cs, h1, aa hb h2 h2.lt⟩
theorem DW (a b : List UInt8) (ha : a.length = 32) (hb : b.length = 32) (w : World) :
 Calls Tryz.prog 22 #[.agg (ay a), .agg (ay b)] w fun e w' => e = .returned (.agg (ay (rF a b))) ∧ Below w.heap.size w w' := by
 have Ha := qh ha
 have Hb := qh hb
 clear ha hb
 go_enter Tryz.func22, Tryz.ntmps22
 go_wp2_with fail
 obtain ⟨W, hW⟩ : ∃ W, ((w.alloc (Obj.cells (ay a) 26)).alloc (Obj.cells (ay b) 26)).alloc (Obj.cells (ay (List.replicate 32 0)) 26) = W := ⟨_, rfl⟩
 have B0 : Below w.heap.size w W := by rw [← hW]; exact (((Below.refl _ _).alloc (Nat.le_refl _) _).alloc (by simp) _).alloc (by simp; omega) _
 have K0 : ax W w.heap.size 26 (ay a) := by rw [← hW]; exact ((ax.new _ _ _).alloc _).alloc _
 have K1 : ax W (w.heap.size + 1) 26 (ay b) := by rw [← hW]; exact (bg _ _ (by simp)).alloc _
 have K2 : ax W (w.heap.size + 1 + 1) 26 (ay (List.replicate 32 0)) := by rw [← hW]; exact bg _ _ (by simp)
 have J := qh (And.intro K0 (And.intro K1 (And.intro K2 B0)))
 clear K0 K1 K2 B0
 change Code.wp _ _ _ _ (((w.alloc (Obj.cells (ay a) 26)).alloc (Obj.cells (ay b) 26)).alloc (Obj.cells (ay (List.replicate 32 0)) 26))
 rw [hW]
 clear hW
 have hadd : ∀ V, (Op.stringOp .add ⟨a.toArray⟩ ⟨b.toArray⟩).run Tryz.prog V = .ok (.string ⟨(a ++ b).toArray⟩) V := fun V => run_string_add_lists V a b (by rw [Ha.out]; decide) (by rw [Hb.out]; decide)
 refine wp_region_held_drew (S := fun w' => ax w' w.heap.size 26 (ay a) ∧ ax w' (w.heap.size + 1) 26 (ay b) ∧ (∃ cs : Array Value, cs.size = 32 ∧ ax w' (w.heap.size + 1 + 1) 26 cs) ∧ Below w.heap.size w w') (by kernel_rfl) ⟨J.out.1.drew, J.out.2.1.drew, ⟨_, by rw [aO, List.length_replicate], J.out.2.2.1.drew⟩, J.out.2.2.2.drew⟩ ?_
 clear J
 intro hS0
 refine wpAnyH_take (i := 0) (v := .agg (ay a)) rfl (by kernel_rfl) (by kernel_rfl) (by kernel_rfl) (fun _ _ _ h => h) (eU (by rfl) 26 (.tmp 2) rfl w.heap.size rfl 26 (ay a) _ (fun _ h => h.1) Tryz.underlying26 rfl (nW _ Ha.out)) hS0 ?_
 refine wpAnyH_take (i := 2) (v := .agg (ay b)) rfl (by kernel_rfl) (by kernel_rfl) (by kernel_rfl) (fun _ _ _ h => h) (eU (by rfl) 26 (.tmp 3) rfl (w.heap.size + 1) rfl 26 (ay b) _ (fun _ h => h.2.1) Tryz.underlying26 rfl (nW _ Hb.out)) hS0 ?_
 go_simp
 refine wpAnyH_ready (rs := [1]) (by kernel_rfl) (by simp) ?_
 refine AllReadyH.cons rfl (fun K hK => ?_) AllReadyH.nil
 go_simp
 refine (mV a Ha.out _).mono ?_
 rintro e w1 ⟨rfl, b1⟩
 refine hK.out _ _ ⟨aa b1 hS0.1 hS0.1.lt, aa b1 hS0.2.1 hS0.2.1.lt, vM b1 hS0.2.2.1, hS0.2.2.2.trans (b1.mono hS0.2.2.2.size)⟩ (fun hS1 => ?_)
 clear hK K hS0 b1
 refine wpAnyH_ready (rs := [3]) (by kernel_rfl) (by simp) ?_
 refine AllReadyH.cons rfl (fun K hK => ?_) AllReadyH.nil
 go_simp
 refine (mV b Hb.out _).mono ?_
 rintro e w2 ⟨rfl, b2⟩
 refine hK.out _ _ ⟨aa b2 hS1.1 hS1.1.lt, aa b2 hS1.2.1 hS1.2.1.lt, vM b2 hS1.2.2.1, hS1.2.2.2.trans (b2.mono hS1.2.2.2.size)⟩ (fun hS2 => ?_)
 clear hK K hS1 b2
 refine wpAnyH_ready (rs := [4]) (by kernel_rfl) (by simp) ?_
 refine AllReadyH.cons rfl (fun K hK => ?_) AllReadyH.nil
 go_simp
 refine hK.out _ _ hS2 (fun _ => ?_)
 clear hK K hadd
 obtain ⟨q, hq⟩ : ∃ q : ByteArray, (⟨(a ++ b).toArray⟩ : ByteArray) = q := ⟨_, rfl⟩
 rw [hq]
 have XV : q.data.toList = a ++ b := by rw [← hq]
 have WK : q.size ≤ 1000000 := by rw [← hq, Ep, List.length_append, Ha.out, Hb.out]; omega
 have HQ := qh XV
 clear hq XV
 refine wpAnyH_ready (rs := [5]) (by kernel_rfl) (by simp) ?_
 refine AllReadyH.cons rfl (fun K hK => ?_) AllReadyH.nil
 go_simp
 refine (zK q WK _).mono ?_
 rintro e w3 ⟨rfl, b3⟩
 rw [HQ.out, show ng (a ++ b) = rF a b from rfl]
 have zB := qh (show (rF a b).length = 32 from eO _)
 refine hK.out _ _ ⟨aa b3 hS2.1 hS2.1.lt, aa b3 hS2.2.1 hS2.2.1.lt, vM b3 hS2.2.2.1, hS2.2.2.2.trans (b3.mono hS2.2.2.2.size)⟩ (fun Vy => ?_)
 clear hK K hS2 b3
 obtain ⟨cs, hcs, WI⟩ := Vy.2.2.1
 refine wpAnyH_ready (rs := [6]) (by kernel_rfl) (by simp) ?_
 refine AllReadyH.cons rfl (fun K hK => ?_) AllReadyH.nil
 refine iD rfl 26 (.tmp 4) (.tmp 10) rfl rfl (w.heap.size + 1 + 1) (ay (rF a b)) rfl rfl 26 _ WI (nW _ zB.out) (by rw [aO, zB.out, hcs]) (dK _) ?_
 intro w4 o4 b4
 refine hK.out _ _ ⟨o4.blk Vy.1 (by simp; omega), o4.blk Vy.2.1 (by simp), ⟨_, by rw [aO, zB.out], b4⟩, Vy.2.2.2.trans (o4.below (by simp; omega))⟩ (fun Yk => ?_)
 clear hK K
 refine wpAnyH_done (by kernel_rfl) ?_ _
 go_wp2_with fail
 exact bodyPost_ret (results_cell_row rfl _ _ (w.heap.size + 1 + 1) 26 _ (0, 0) _ rfl b4 Tryz.underlying26 rfl (nW _ zB.out)) rfl ⟨rfl, Yk.2.2.2⟩
end
section
open Go.RowKit
theorem Ra {T : dX} (h : ry T) : (vz T).length ≤ 6000 := by
 have hlen := tK T h
 obtain ⟨o1, o2, o3, o4, _⟩ := h
 split at hlen <;> omega
end
section
open Go.RowKit
theorem iW (l : List UInt8) : (ng l).length = 32 := by simp [ng, eO]
def wC (T : dX) : aS × Int := match fA T with
 | (s, e) => if e = 0 then (⟨ng s, iW s⟩, 0) else (ai, e)
def XL (x : aS × Int) : Value := .tuple #[.agg (ak x.1).toArray, .int .i64 x.2]
theorem vO (T : dX) : (ry T ∧ fA T = (vz T, 0) ∧ wC T = (⟨ng (vz T), iW _⟩, 0)) ∨ ∃ er, er ≠ 0 ∧ fA T = ([], er) ∧ wC T = (ai, er) := by
 unfold wC
 rcases sN T with ⟨h, h1⟩ | h1 | h1
 ·exact .inl ⟨h, h1, by rw [h1]; rfl⟩
 ·exact .inr ⟨51, by decide, h1, by rw [h1]; rfl⟩
 ·exact .inr ⟨1, by decide, h1, by rw [h1]; rfl⟩
theorem U5 {T : dX} (h : ry T) : (vz T).length ≤ 6000 := by
 have hlen := tK T h
 obtain ⟨o1, o2, o3, o4, _⟩ := h
 split at hlen <;> omega
theorem Ph (a : aY) (w : World) (h : a.In w w.heap.size) (hR : aM w) :
 Calls Tryz.prog 95 #[.agg a.cells.toArray] w fun e w' => e = .returned (XL (wC a.T)) ∧ Below w.heap.size w w' := by
 have HB := qh (fun c => (show au ((w.alloc (.cells a.cells.toArray 92)).alloc (.cells c 26)) w.heap.size 0 a.cells from au.ah ((ax.new _ _ _).alloc _)))
 have HI := qh (fun c => (show a.In ((w.alloc (.cells a.cells.toArray 92)).alloc (.cells c 26)) _ from aY.In.on h (((Below.refl _ _).alloc (Nat.le_refl _) _).alloc (by simp) _) (Nat.le_refl _)))
 have l0 := hR.sH
 have l1 := hR.qL
 have HR := qh hR
 clear h hR
 rcases vO a.T with ⟨hok, he, hi⟩ | ⟨er, h0, he, hi⟩
 ·rw [hi]
  have hD : ∀ w, aM w → Calls Tryz.prog 33 #[.string ⟨(vz a.T).toArray⟩] w fun e w' => e = .returned (.agg (ay (ng (vz a.T)))) ∧ Below w.heap.size w w' := (fun w h => sO ⟨(vz a.T).toArray⟩ (by rw [gG]; have := U5 hok; omega) w h)
  have HD := qh hD
  have HE := qh he
  clear hD hok he hi
  go_enter Tryz.func95, Tryz.ntmps95
  go_wp2_with ((with_reducible refine az 1 ?_); refine di.af rfl (.tmp 1) rfl w.heap.size 0 rfl a (HB.out _) ?_)
  refine (uN a _ (HI.out _)).mono ?_
  rintro e w1 ⟨rfl, b1⟩
  have B1 := qh ((((Below.refl w.heap.size w).alloc (Nat.le_refl _) _).alloc (by simp) _).trans (b1.mono (by simp; omega)))
  have K2 := qh (aa b1 (bg (g := w.heap.size + 1) (w := w.alloc (.cells a.cells.toArray 92)) 26 _ (by simp)) (by simp))
  rw [HE.out]
  clear b1 HB HI
  unfold q9
  go_wp2_with fail
  refine (HD.out _ (HR.out.below B1.out l0 l1)).mono ?_
  rintro e w2 ⟨rfl, b2⟩
  have K3 := qh (aa b2 K2.out K2.out.lt)
  have B2 := qh (B1.out.trans (b2.mono B1.out.size))
  clear b2 HD K2 B1
  go_wp2_with ((with_reducible refine ag 2 16 ?_); refine aG rfl 26 (.tmp 2) (.tmp 16) rfl rfl (w.heap.size + 1) (ay (ng (vz a.T))) rfl rfl 26 _ K3.out (xO _ (iW _)) (by rw [aO, iW]; rfl) (dK _) ?_; intro w3 o3 b3)
  refine bodyPost_ret (bn rfl _ _ (w.heap.size + 1) 26 _ (0, 0) _ rfl b3 Tryz.underlying26 rfl (xO _ (iW _))) rfl ⟨?_, B2.out.trans (o3.below (by simp))⟩
  unfold XL
  rw [dQ]
  rfl
 ·rw [hi]
  have hd : (er == 0) = false := beq_eq_false_iff_ne.mpr h0
  have HE := qh he
  clear he hi h0
  go_enter Tryz.func95, Tryz.ntmps95
  go_wp2_with ((with_reducible refine az 1 ?_); refine di.af rfl (.tmp 1) rfl w.heap.size 0 rfl a (HB.out _) ?_)
  refine (uN a _ (HI.out _)).mono ?_
  rintro e w1 ⟨rfl, b1⟩
  have B1 := qh ((((Below.refl w.heap.size w).alloc (Nat.le_refl _) _).alloc (by simp) _).trans (b1.mono (by simp; omega)))
  have K2 := qh (aa b1 (bg (g := w.heap.size + 1) (w := w.alloc (.cells a.cells.toArray 92)) 26 _ (by simp)) (by simp))
  rw [HE.out]
  clear b1 HB HI
  unfold q9
  go_wp2_with ((with_reducible refine ag 2 13 ?_); refine aG rfl 26 (.tmp 2) (.tmp 13) rfl rfl (w.heap.size + 1) (ak ai).toArray rfl (congrArg Value.agg vJ) 26 _ K2.out (eH.oU _) (by rw [eH.arr]; rfl) (eH.zq _) ?_; intro w3 o3 b3)
  exact bodyPost_ret (bn rfl _ _ (w.heap.size + 1) 26 _ (0, 0) _ rfl b3 Tryz.underlying26 rfl (eH.oU _)) rfl ⟨rfl, B1.out.trans (o3.below (by simp))⟩
end
section
open Go.RowKit
end
section
open Go.RowKit
def qY (B : bK) : aS × Int := match gX B with
 | (s, e) => if e = 0 then (⟨ng s, iW s⟩, 0) else (ai, e)
theorem yP (B : bK) : (pI B ∧ gX B = (nu B, 0) ∧ qY B = (⟨ng (nu B), iW _⟩, 0)) ∨ ∃ er, er ≠ 0 ∧ gX B = ([], er) ∧ qY B = (ai, er) := by
 unfold qY
 rcases wF B with ⟨h, h1⟩ | ⟨e, h1, h2⟩
 ·exact .inl ⟨h, h1, by rw [h1]; rfl⟩
 ·have h0 : e ≠ 0 := by omega
  exact .inr ⟨e, h0, h1, by rw [h1]; exact if_neg h0⟩
theorem TG {B : bK} (h : pI B) : (nu B).length ≤ 200000 := by
 have hlen := zl B h
 have := BS (B.bG.map fun T => (vz T).length) 6000 (fun x hx => by
  obtain ⟨T, hT, rfl⟩ := List.mem_map.1 hx
  exact Ra (h.2.2 T hT))
 rw [List.length_map] at this
 have := h.2.1
 omega
end
section
open Go.RowKit Go.Sort
def Gr (w w' : World) : Prop := ∃ q os, w' = grow (w.drewN q) os
theorem Gr.refl (w : World) : Gr w w := ⟨0, #[], by rw [grow_empty]; rfl⟩
theorem Gr.trans {a b c : World} (h : Gr a b) (k : Gr b c) : Gr a c := by
 obtain ⟨q, os, rfl⟩ := h
 obtain ⟨q', os', rfl⟩ := k
 exact ⟨q + q', os ++ os', by show grow (grow ((a.drewN q).drewN q') os) os' = _; rw [grow_grow, World.drewN_drewN]⟩
theorem Gr.alloc {a b : World} (h : Gr a b) (o : Obj) : Gr a (b.alloc o) := h.trans ⟨0, #[o], by rw [alloc_eq_grow]; rfl⟩
theorem Gr.drewN {a b : World} (h : Gr a b) (n : Nat) : Gr a (b.drewN n) := h.trans ⟨n, #[], by rw [grow_empty]⟩
theorem Gr.drew {a b : World} (h : Gr a b) : Gr a b.drew := h.drewN 1
theorem Gr.below {w w' : World} (h : Gr w w') : Below w.heap.size w w' := by
 obtain ⟨q, os, rfl⟩ := h
 exact below_grown_sl _ w q os (Nat.le_refl _)
theorem Bz {P : Program} {id : Nat} {Q : Exit → Act → World → Prop} {a : Act} {w : World} {l : List Oper} (hm : P.follows .mixedOrders = true) (hB : Region.lexB .any l.toArray = true)
 (h : wpQuiet P l.toArray (Gr w) (fun a' => ∀ w', Gr w w' → Q .normal a' w') l a) : (Code.region id l.toArray true).wp P Q a w :=
 wp_region_quiet (C := Gr w) hm hB (Gr.refl w).drew (by simpa using h)
theorem szK (a : aS) : (Tryz.prog.info? 26).map (·.size) = some (ay a.1).size := by rw [aO, a.2]; kernel_rfl
theorem mF {P : Program} {w : World} {g : Nat} {t : TypeId} (a : aS) (h : ax w g t (ay a.1)) :
 (Extern.Bytes.bytesOf (.slice (some ⟨g, 0, none⟩) 32 32)).run P w = .ok ⟨a.1.toArray⟩ w := by
 have hc : ∀ j x, (a.1.map fun b => (b.toNat : Int))[j]? = some x → w.cell? ((⟨g, 0, none⟩ : Addr).add j) = some (.int .u8 x) := by
  intro j x hj
  have e : (⟨g, 0, none⟩ : Addr).add j = ⟨g, j, none⟩ := by unfold Addr.add; split <;> simp_all
  rw [e, h.cell]
  simp only [ay, List.getElem?_toArray, List.getElem?_map] at hj ⊢
  cases hq : a.1[j]? with
  | none => simp [hq] at hj
  | some b => simp [hq] at hj; simp [hj]
 have hl : (a.1.map fun b => (b.toNat : Int)).length = 32 := by simp [a.2]
 have hr := Lib.run_loadBytesX (P := P) (w := w) (a.1.map fun b => (b.toNat : Int)) ⟨g, 0, none⟩ ByteArray.empty hc
 rw [hl] at hr
 have hb : Lib.bytesOf (a.1.map fun b => (b.toNat : Int)) = a.1 := by
  unfold Lib.bytesOf
  rw [List.map_map]
  conv => rhs; rw [← List.map_id a.1]
  apply List.map_congr_left
  intro b _
  simp
 rw [hb] at hr
 have he : (⟨ByteArray.empty.data ++ a.1.toArray⟩ : ByteArray) = ⟨a.1.toArray⟩ := by
  apply ByteArray.ext
  show (#[] : Array UInt8) ++ a.1.toArray = a.1.toArray
  simp
 rw [he] at hr
 exact hr
theorem CG (a b : aS) (g1 g2 : Nat) (t1 t2 : TypeId) (w : World) (h1 : ax w g1 t1 (ay a.1)) (h2 : ax w g2 t2 (ay b.1)) :
 Calls Tryz.prog 294 #[.slice (some ⟨g1, 0, none⟩) 32 32, .slice (some ⟨g2, 0, none⟩) 32 32] w fun e w' => e = .returned (.int .i64 (Qd a b)) ∧ w' = w := by
 have hr : (Extern.BytealgCompare.compare #[.slice (some ⟨g1, 0, none⟩) 32 32, .slice (some ⟨g2, 0, none⟩) 32 32]).run Tryz.prog w = .ok (.int .i64 (Qd a b)) w := by
  change Sem.run _ (do pure (goInt (Extern.BytealgCompare.cmp (← Extern.Bytes.bytesOf (.slice (some ⟨g1, 0, none⟩) 32 32)) (← Extern.Bytes.bytesOf (.slice (some ⟨g2, 0, none⟩) 32 32))))) w = _
  rw [Sem.run_bind, mF a h1]
  simp only [Result.andThen_ok]
  rw [Sem.run_bind, mF b h2]
  simp only [Result.andThen_ok, Sem.run_pure, Lib.cmp_eq]
  rfl
 clear h1 h2
 go_enter Tryz.func294, Tryz.ntmps294
 go_wp2
 rw [run_callFunc_extern Tryz.func323 (by kernel_rfl) (by kernel_rfl) (by kernel_rfl) (e := Extern.BytealgCompare.compare) (by kernel_rfl), hr]
 simp only [Result.andThen]
 rw [Oper.upon_value]
 go_wp2
 go_ret
 exact ⟨rfl, rfl⟩
theorem Ka (a b : aS) (w : World) :
 Calls Tryz.prog 241 #[.agg (ay a.1), .agg (ay b.1)] w fun e w' => e = .returned (.int .i64 (Qd a b)) ∧ Gr w w' := by
 have h0 := szK a
 go_enter Tryz.func241, Tryz.ntmps241
 go_wp2_with fail
 have K0 := qh ((ax.new w 26 (ay a.1)).alloc (.cells (ay b.1) 26))
 have K1 := qh (bg (w := w.alloc (.cells (ay a.1) 26)) 26 (ay b.1) (g := w.heap.size + 1) (by simp))
 have G0 : Gr w ((w.alloc (.cells (ay a.1) 26)).alloc (.cells (ay b.1) 26)) := ((Gr.refl w).alloc _).alloc _
 generalize (w.alloc (.cells (ay a.1) 26)).alloc (.cells (ay b.1) 26) = w1 at K0 K1 G0 ⊢
 refine Bz (by kernel_rfl) (by kernel_rfl) ?_
 repeat (first
  | (go_big_quiet_want; go_big_quiet_op; refine ⟨_, fun _ _ => by with_reducible rfl, ?_⟩; go_big_quiet_on)
  | go_big_quiet_step ((intro hC; go_at_call 294; with_reducible exact (CG a b _ _ 26 26 _ (aa hC.below K0.out K0.out.lt) (aa hC.below K1.out K1.out.lt)).mono fun _ _ h => ⟨h.1, h.2 ▸ hC⟩)))
 refine wpQuiet_nil ?_
 intro w9 hC
 go_wp2_with fail
 go_ret
 exact ⟨rfl, G0.trans hC⟩
theorem OQ (a b : aS) (w : World) :
 Calls Tryz.prog 170 #[.agg (ay a.1), .agg (ay b.1)] w fun e w' => e = .returned (.bool (LV a b)) ∧ Gr w w' := by
 have G0 : Gr w ((w.alloc (.cells (ay a.1) 26)).alloc (.cells (ay b.1) 26)) := ((Gr.refl w).alloc _).alloc _
 go_enter Tryz.func170, Tryz.ntmps170
 go_wp2_with (first
  | ((with_reducible refine az 2 ?_); refine wpList_load_row rfl 26 (.tmp 2) rfl w.heap.size rfl 26 (ay a.1) (0, 0) _ ((ax.new w 26 (ay a.1)).alloc _) Tryz.underlying26 rfl (szK a) ?_)
  | ((with_reducible refine az 3 ?_); refine wpList_load_row rfl 26 (.tmp 3) rfl (w.heap.size + 1) rfl 26 (ay b.1) (0, 0) _ (bg (w := w.alloc (.cells (ay a.1) 26)) 26 (ay b.1) (g := w.heap.size + 1) (by simp)) Tryz.underlying26 rfl (szK b) ?_)
  | (go_at_call 241; refine (Ka a b _).mono ?_; rintro e w2 ⟨rfl, G1⟩; have G2 := G0.trans G1; clear G0 G1))
 go_ret
 exact ⟨rfl, G2⟩
end
section
open Go.RowKit Go.Sort
theorem tyK : cu Tryz.prog 22 26 ak 32 :=
 ⟨Tryz.underlying22, by kernel_rfl, aC, fI, fun w => by simp [isAgg, run_underlying Tryz.underlying26], by omega⟩
theorem au.cast {w : World} {g o o' : Nat} {cs : List Value} (h : au w g o cs) (e : o' = o) : au w g o' cs := e ▸ h
theorem sM (x : aS) : (ak x).toArray = ay x.1 := dQ x
def oJ (p : aS → Bool) (l : List aS) : Int := if l.any p = true then (l.findIdx p : Int) else -1
theorem KI (p : aS → Bool) (l : List aS) (k : Nat) (hk : k < l.length) (hp : p l[k] = true) (hb : ∀ j (h : j < l.length), j < k → p l[j] = false) : oJ p l = k := by
 unfold oJ
 rw [if_pos (List.any_eq_true.2 ⟨_, List.getElem_mem hk, hp⟩)]
 congr 1
 exact (List.findIdx_eq hk).2 ⟨hp, fun j hj => hb j (by omega) hj⟩
theorem EM (p : aS → Bool) (l : List aS) (hb : ∀ j (h : j < l.length), p l[j] = false) : oJ p l = -1 := by
 unfold oJ
 rw [if_neg]
 intro h
 obtain ⟨x, hx, hp⟩ := List.any_eq_true.1 h
 obtain ⟨i, hi, rfl⟩ := List.getElem_of_mem hx
 rw [hb i hi] at hp; cases hp
theorem He (p : aS → Bool) (l : List aS) : decide ((0 : Int) ≤ oJ p l) = l.any p := by
 unfold oJ
 cases l.any p <;> simp
theorem zM (A : Option Addr) (c : Nat) (l : List aS) (B : Nat) (w : World) (hl : l.length ≤ 1000000) (hB : B ≤ w.heap.size) (h : aK ak 32 w B A c l)
 (g : Nat) (cb : Array Value) (p : aS → Bool) (eg : ∀ args w, (callFunc g args).run Tryz.prog w = .ok (.enter g args) w)
 (hp : ∀ x W, Below w.heap.size w W → Calls Tryz.prog g (#[.agg (ay x.1)] ++ cb) W fun e w' => e = .returned (.bool (p x)) ∧ Below W.heap.size W w') :
 Calls Tryz.prog 36 #[.slice A l.length c, .func (.func g) #[] cb] w fun e w' => e = .returned (.int .i64 (oJ p l)) ∧ Below w.heap.size w w' := by
 obtain ⟨r, hr⟩ : ∃ r, oJ p l = r := ⟨_, rfl⟩
 rw [hr]
 have HR := qh hr
 clear hr
 obtain ⟨n, hn⟩ : ∃ n, l.length = n := ⟨_, rfl⟩
 have HN := qh hn
 rw [hn] at hl
 have HH := qh h
 have HP := qh hp
 clear h hp
 rw [hn]
 clear hn
 go_enter Tryz.func36, Tryz.ntmps36
 go_wp2_with fail
 go_loopw [5, 8] (fun _ i wr => ∃ k : Nat, i = .int .i64 k ∧ k ≤ n ∧ Hid (∀ j (h : j < l.length), j < k → p l[j] = false) ∧ Hid (Below w.heap.size w wr)) (fun _ i _ => n - (intOf i).toNat)
 case atStart => exact ⟨0, rfl, by omega, qh (fun j h1 h2 => absurd h2 (Nat.not_lt_zero _)), qh (Below.refl _ _)⟩
 case round =>
  obtain ⟨k, rfl, hk, HI, HW⟩ := hrel
  by_cases hlt : k < n
  ·have hk' : k < l.length := by rw [HN.out]; exact hlt
   obtain ⟨gg, o, rfl, hg, hc⟩ := HH.out.cells (by intro e; subst e; simp at hk')
   have HX := qh ((hc.below HW.out (by omega)).at aC hk')
   clear hc
   obtain ⟨x, hx⟩ : ∃ x, l[k]'hk' = x := ⟨_, rfl⟩
   rw [hx] at HX
   have HE := qh hx
   clear hx
   have d1 : (0 : Int) ≤ (k : Int) := by omega
   have d2 : (k : Int) < (n : Int) := by omega
   have HC := qh (HP.out x wr HW.out)
   obtain ⟨b, hb⟩ : ∃ b, p x = b := ⟨_, rfl⟩
   rw [hb] at HC
   have HB := qh hb
   clear hb
   cases b
   ·go_wp2_with (first
     | ((with_reducible refine fq 14 ?_); refine tyK.af (by rfl) (.tmp 14) rfl gg _ rfl x (HX.out.cast (by omega)) ?_; simp only [sM])
     | (go_at_fn g; refine HC.out.mono ?_; rintro e w2 ⟨rfl, b2⟩))
    go_roundw
    case rel =>
     refine ⟨k + 1, by go_num, by omega, qh (fun j h1 h2 => ?_), qh (HW.out.trans (b2.mono HW.out.size))⟩
     by_cases e : j = k
     ·subst e; rw [HE.out]; exact HB.out
     ·exact HI.out j h1 (by omega)
    case measure => simp [intOf]; omega
   ·go_wp2_with (first
     | ((with_reducible refine fq 14 ?_); refine tyK.af (by rfl) (.tmp 14) rfl gg _ rfl x (HX.out.cast (by omega)) ?_; simp only [sM])
     | (go_at_fn g; refine HC.out.mono ?_; rintro e w2 ⟨rfl, b2⟩))
    go_ret
    refine ⟨?_, HW.out.trans (b2.mono HW.out.size)⟩
    rw [← HR.out, KI p l k hk' (by rw [HE.out]; exact HB.out) HI.out]
    rfl
  ·go_wp2_with fail
   go_ret
   refine ⟨?_, HW.out⟩
   rw [← HR.out, EM p l (fun j hj => HI.out j hj (by have := HN.out; omega))]
   rfl
theorem vV (A : Option Addr) (c : Nat) (l : List aS) (B : Nat) (w : World) (hl : l.length ≤ 1000000) (hB : B ≤ w.heap.size) (h : aK ak 32 w B A c l)
 (g : Nat) (cb : Array Value) (p : aS → Bool) (eg : ∀ args w, (callFunc g args).run Tryz.prog w = .ok (.enter g args) w)
 (hp : ∀ x W, Below w.heap.size w W → Calls Tryz.prog g (#[.agg (ay x.1)] ++ cb) W fun e w' => e = .returned (.bool (p x)) ∧ Below W.heap.size W w') :
 Calls Tryz.prog 23 #[.slice A l.length c, .func (.func g) #[] cb] w fun e w' => e = .returned (.bool (l.any p)) ∧ Below w.heap.size w w' := by
 have HC := qh (zM A c l B w hl hB h g cb p eg hp)
 have HQ := He p l
 obtain ⟨q, hq⟩ : ∃ q, oJ p l = q := ⟨_, rfl⟩
 rw [hq] at HC HQ
 obtain ⟨r, hr⟩ : ∃ r, l.any p = r := ⟨_, rfl⟩
 rw [hr] at HQ ⊢
 clear hq hr h hp
 go_enter Tryz.func23, Tryz.ntmps23
 go_wp2_with (go_at_call 36; refine HC.out.mono ?_; rintro e w2 ⟨rfl, b2⟩)
 go_ret
 exact ⟨by first | (rw [← HQ]; rfl) | rfl, b2⟩
end
section
open Go.RowKit Go.Sort
theorem nP (A : Option Addr) (c : Nat) (l : List aS) (B : Nat) (w : World) (hl : l.length ≤ 1000000) (hB : B ≤ w.heap.size) (h : aK ak 32 w B A c l) :
 Calls Tryz.prog 148 #[.slice A l.length c] w fun e w' => ∃ v, e = .returned v ∧ w'.ownsRow w.heap.size 26 32 v l.length (cellsOf ak l) ∧ Below w.heap.size w w' := by
 have HH := qh (h.reads aC)
 have H1 := qh (dB fI l)
 have hn : A = none → l = [] := fun e => by
  cases l with
  | nil => rfl
  | cons x l => obtain ⟨g, o, e', _⟩ := h.cells (by simp); rw [e] at e'; cases e'
 clear h
 obtain ⟨xs, hxs⟩ : ∃ xs, cellsOf ak l = xs := ⟨_, rfl⟩
 have QG := qh hxs
 rw [hxs] at HH H1 ⊢
 clear hxs
 have q22 : ∀ (w : World) (a : Option Addr) (n c n' c' : Nat), (binOp .eql 22 (.slice a n c) (.slice none n' c')).run Tryz.prog w = .ok (.bool a.isNone) w := fun w a n c n' c' => Lib.run_eql_slice_nil w _ _ a n c n' c' Tryz.underlying22
 rcases A with _ | ad
 ·have hl0 := hn rfl
  subst hl0
  have hx0 : xs = [] := by rw [← QG.out]; rfl
  subst hx0
  go_enter Tryz.func148, Tryz.ntmps148
  go_wp2_with fail
  go_ret
  exact ⟨_, rfl, ⟨rfl, .inl ⟨rfl, rfl⟩⟩, Below.refl _ _⟩
 ·clear hn
  obtain ⟨n, hn⟩ : ∃ n, l.length = n := ⟨_, rfl⟩
  rw [hn] at HH hl ⊢
  clear hn QG
  obtain ⟨i0, hi0⟩ : ∃ i0, Tryz.prog.info? 26 = some i0 := Option.isSome_iff_exists.1 (by kernel_rfl)
  have hz : i0.zero.map (·.cells.size) = some 32 ∧ i0.size = 32 ∧ i0.bytes = 32 := by
   have h1 : (Tryz.prog.info? 26).map (fun i => (i.zero.map (·.cells.size), i.size, i.bytes)) = some (some 32, 32, 32) := by kernel_rfl
   rw [hi0] at h1
   simpa using h1
  obtain ⟨hz1, hz2, hz3⟩ := hz
  obtain ⟨z, IZ, IY⟩ := Option.map_eq_some_iff.1 hz1
  have HZ := qh (And.intro hi0 (And.intro IZ (And.intro hz2 (And.intro hz3 IY))))
  clear hz1 hz2 hz3 hi0 IZ IY
  go_enter Tryz.func148, Tryz.ntmps148
  go_wp2_with (at_builtin; refine dP _ rfl _ _ 22 rfl w.heap.size 26 i0 z 32 32 Tryz.underlying22 HZ.out.1 HZ.out.2.1 HZ.out.2.2.1 HZ.out.2.2.2.1 HZ.out.2.2.2.2 (by omega) _ 0 [] rfl (World.ownsRow_made w #[] 0 (Nat.le_refl _) (Nat.zero_le _) (by simp)) B _ n c xs rfl ((HH.out.more hB).alloc (Nat.le_refl _) _ |> fun h => ⟨h.1, fun hp => let ⟨UQ, e1, e2, e3⟩ := HH.out.2 hp; ⟨UQ, e1, e2, let ⟨ad2, f1, f2, f3⟩ := h.2 hp; (Option.some.inj (e1.symm.trans f1)) ▸ f3⟩⟩) H1.out ?_ ?_ ?_ ?_)
  ·unfold maxLen; omega
  ·omega
  ·simp
  ·intro v' w1 hown hgrow _
   go_wp2_with fail
   go_ret
   refine ⟨v', rfl, by simpa using hown, ?_⟩
   exact ((Below.refl _ w).alloc (Nat.le_refl _) _).grown hgrow (by simp) (by intro k hk; simp [Value.ownBlock] at hk; omega)
end
section
def Pg (k : aS) (l : List aS) : List aS := if k ∈ l then l else RV k l
end
section
open Go.RowKit Go.Sort
def XF (a b : List aS) : Bool := b.any fun k => decide (k ∈ a)
end
section
open Go.RowKit
abbrev PtC := aS × aQ .u32
def fV (T : dX) : List Int := T.outs.map fun o => o.1.1
def tu (T : dX) : List (aQ .i64) := T.outs.map (·.1)
theorem xJ (T : dX) : cellsOf (enc1 .i64) (tu T) = ints (fV T) := by
 unfold cellsOf enc1 ints tu fV
 induction T.outs with
 | nil => rfl
 | cons o os ih => simp only [List.map_cons, List.flatMap_cons, ih]; rfl
theorem vg (T : dX) : (tu T).length = T.outs.length := by unfold tu; rw [List.length_map]
def U1 (T : dX) : Bool := T.ins.any fun p => decide (p.1 = ai)
def TJ (T : dX) : Bool := decide (T.dW.1 < -2100000000000000) || decide (2100000000000000 < T.dW.1) || (decide (0 < T.dW.1) && decide (T.av.length = 0)) || (decide (T.dW.1 < 0) && decide (T.notes.length = 0))
def oF (T : dX) : Bool := (gI 0 (fV T)).isNone || TJ T
def yC (T : dX) : Bool := decide (T.ins.length + T.av.length = 0) || decide (T.outs.length + T.notes.length = 0)
def iL (T : dX) (b : Bool) : Bool := (gy T != b) || (b && decide (0 < T.av.length)) || (!b && U1 T)
def pR (T : dX) : Bool := !(decide T.ins.Nodup) || !(decide T.av.Nodup)
def fB (T : dX) (b : Bool) : Int :=
 if (fA T).2 ≠ 0 then (fA T).2 else if yC T then 110 else if iL T b then 112 else if pR T then 111 else if oF T then 20 else 0
structure iy (T : dX) : Prop where
 i : T.ins.length ≤ 120
 o : T.outs.length ≤ 120
 n : T.av.length ≤ 120
 t : T.notes.length ≤ 120
def Qw : Prop := ∀ (a : aY) (w : World), a.In w w.heap.size → iy a.T → Calls Tryz.prog 208 #[.agg a.cells.toArray] w fun e w' => ∃ A c, e = .returned (.slice A (tu a.T).length c) ∧ aK (enc1 .i64) 1 w' w'.heap.size A c (tu a.T) ∧ Below w.heap.size w w'
end
section
theorem Pf (k : aS) (l : List aS) : (Pg k l).length ≤ l.length + 1 := by
 unfold Pg
 split
 ·omega
 ·rw [(Aq k l).length_eq]; simp
end
section
def LP (s l : List aS) : List aS := l.foldl (fun s k => Pg k s) s
theorem LM (s : List aS) (k : aS) (l : List aS) : LP s (k :: l) = LP (Pg k s) l := rfl
theorem Jg : ∀ (l s : List aS), (LP s l).length ≤ s.length + l.length
 | [], s => Nat.le_refl _
 | k :: l, s => by
  have := Jg l (Pg k s)
  have := Pf k s
  rw [LM, List.length_cons]
  omega
def UL (s l : List aS) : Bool := !(XF s l) && decide l.Nodup
end
section
section
variable {α : Type}
def bU (n : Nat) (l : List α) : List α := l.drop (l.length - n)
theorem lq (n : Nat) (l : List α) : (bU n l).length = min l.length n := by unfold bU; rw [List.length_drop]; omega
theorem AB {n : Nat} {l : List α} (h : l.length ≤ n) : bU n l = l := by unfold bU; rw [show l.length - n = 0 by omega, List.drop_zero]
end
abbrev EE (r : List aS) (k : aS) : Bool := decide (k ∈ bU 4 r)
def ou (r : List aS) (k : aS) : List aS := bU 8 (r ++ [k])
theorem Ng (r : List aS) (k : aS) : (ou r k).length = min (r.length + 1) 8 := by unfold ou; rw [lq]; simp
end
section
def gJ (n i : Nat) : Bool := decide (n / 2 ^ i % 2 = 1)
theorem kN (n i : Nat) : n % 2 ^ (i + 1) = n % 2 ^ i + (if gJ n i then 2 ^ i else 0) := by
 rw [Nat.mod_pow_succ]
 unfold gJ
 by_cases h : n / 2 ^ i % 2 = 1
 ·rw [if_pos (by simpa using h), h]; simp
 ·rw [if_neg (by simpa using h), show n / 2 ^ i % 2 = 0 by omega]; simp
section
variable {K : Type} (p : K → K → K) (z : K)
def Hl : Nat → K
 | 0 => z
 | i + 1 => p (Hl i) (Hl i)
def atR : Nat → List K → K
 | 0, l => l.headD z
 | h + 1, l => p (atR h (l.take (2 ^ h))) (atR h (l.drop (2 ^ h)))
theorem CQ : ∀ h, atR p z h [] = Hl p z h
 | 0 => rfl
 | h + 1 => by
  unfold atR Hl
  rw [List.take_nil, List.drop_nil, CQ h]
theorem Je (h : Nat) (a b : List K) (ha : a.length = 2 ^ h) : atR p z (h + 1) (a ++ b) = p (atR p z h a) (atR p z h b) := by
 rw [show atR p z (h + 1) (a ++ b) = p (atR p z h ((a ++ b).take (2 ^ h))) (atR p z h ((a ++ b).drop (2 ^ h))) from rfl]
 rw [List.take_append_of_le_length (by omega), List.take_of_length_le (by omega), List.drop_append, List.drop_of_length_le (by omega), List.nil_append, ha, Nat.sub_self, List.drop_zero]
theorem TS (h : Nat) (a : List K) (ha : a.length ≤ 2 ^ h) : atR p z (h + 1) a = p (atR p z h a) (Hl p z h) := by
 rw [show atR p z (h + 1) a = p (atR p z h (a.take (2 ^ h))) (atR p z h (a.drop (2 ^ h))) from rfl]
 rw [List.take_of_length_le (by omega), List.drop_of_length_le (by omega), CQ]
structure rO (K : Type) where
 count : Nat
 parts : List K
def partOf (l : List K) (i : Nat) : K := if gJ l.length i then atR p z i ((l.drop (l.length - l.length % 2 ^ (i + 1))).take (2 ^ i)) else z
def Ei (l : List K) : rO K := ⟨l.length, (List.range 32).map (partOf p z l)⟩
def ni (c : Nat) : Nat → Nat → List K → K → List K
 | 0, i, P, x => P.set i x
 | n + 1, i, P, x => if gJ c i then ni c n (i + 1) (P.set i z) (p (P.getD i z) x) else P.set i x
def V4 (t : rO K) (x : K) : rO K × Int :=
 if t.count = 4294967295 then (⟨0, List.replicate 32 z⟩, 2) else (⟨t.count + 1, ni p z t.count 32 0 t.parts x⟩, 0)
def xW (t : rO K) : Nat → K
 | 0 => z
 | i + 1 => if gJ t.count i then p (t.parts.getD i z) (xW t i) else p (xW t i) (Hl p z i)
def Ur (t : rO K) : K := xW p z t 32
def Mi (P : List K) (x : K) : Nat → K
 | 0 => x
 | i + 1 => p (P.getD i z) (Mi P x i)
theorem vX (c : Nat) (P0 : List K) (x : K) : ∀ (n i : Nat) (P : List K), (∀ k, i ≤ k → P.getD k z = P0.getD k z) → P.length = 32 → i ≤ 32 →
 (∀ j, j < i → gJ c j = true) → (∀ k, k < i → k < 32 → P[k]? = some z) → (∃ j, i ≤ j ∧ j < i + n ∧ j < 32 ∧ gJ c j = false) →
 ∃ j, j < 32 ∧ (∀ k, k < j → gJ c k = true) ∧ gJ c j = false ∧ ∀ k, k < 32 → (ni p z c n i P (Mi p z P0 x i))[k]? = some (if k < j then z else if k = j then Mi p z P0 x j else P0.getD k z)
 | 0, i, P, _, _, _, _, _, ⟨j, h1, h2, _⟩ => by omega
 | n + 1, i, P, hP, hl, hi, hb, hz, ⟨j, h1, h2, h3, h4⟩ => by
  unfold ni
  by_cases hc : gJ c i = true
  ·rw [if_pos hc]
   have hne : j ≠ i := by intro q; subst q; rw [hc] at h4; cases h4
   have he : p (P.getD i z) (Mi p z P0 x i) = Mi p z P0 x (i + 1) := by rw [hP i (Nat.le_refl _)]; rfl
   rw [he]
   refine vX c P0 x n (i + 1) (P.set i z) (fun k hk => ?_) (by rw [List.length_set]; exact hl) (by omega) (fun k hk => ?_) (fun k hk hk2 => ?_) ⟨j, by omega, by omega, h3, h4⟩
   ·rw [← hP k (by omega)]
    simp only [List.getD_eq_getElem?_getD]
    rw [List.getElem?_set_ne (by omega)]
   ·by_cases hki : k = i
    ·rw [hki]; exact hc
    ·exact hb k (by omega)
   ·by_cases hki : k = i
    ·rw [hki, List.getElem?_set_self (by omega)]
    ·rw [List.getElem?_set_ne (by omega)]
     exact hz k (by omega) hk2
  ·rw [if_neg hc]
   have aar : i < 32 := by omega
   refine ⟨i, aar, hb, by simpa using hc, fun k hk => ?_⟩
   by_cases h5 : k < i
   ·rw [if_pos h5, List.getElem?_set_ne (by omega)]
    exact hz k h5 hk
   ·rw [if_neg h5]
    by_cases h6 : k = i
    ·rw [if_pos h6, h6, List.getElem?_set_self (by omega)]
    ·rw [if_neg h6, List.getElem?_set_ne (by omega), ← hP k (by omega), List.getD_eq_getElem?_getD, List.getElem?_eq_getElem (by omega)]
     rfl
theorem AX {n : Nat} (h : n < 4294967295) : ∃ j, j < 32 ∧ gJ n j = false := by
 apply Classical.byContradiction
 intro hn
 have hall : ∀ j, j < 32 → gJ n j = true := fun j hj => by
  cases hb : gJ n j with
  | true => rfl
  | false => exact absurd ⟨j, hj, hb⟩ hn
 have key : ∀ i, i ≤ 32 → n % 2 ^ i = 2 ^ i - 1 := by
  intro i
  induction i with
  | zero => intro _; simp [Nat.mod_one]
  | succ i ih =>
   intro hi
   have h1 := ih (by omega)
   rw [kN, hall i (by omega), h1, if_pos rfl, Nat.pow_succ]
   have : 0 < 2 ^ i := Nat.two_pow_pos i
   omega
 have := key 32 (Nat.le_refl _)
 rw [Nat.mod_eq_of_lt (by omega)] at this
 omega
theorem uz {n : Nat} : ∀ j, (∀ k, k < j → gJ n k = true) → n % 2 ^ j = 2 ^ j - 1
 | 0, _ => by simp [Nat.mod_one]
 | j + 1, h => by
  have h1 := uz j (fun k hk => h k (by omega))
  rw [kN, h j (by omega), h1, if_pos rfl, Nat.pow_succ]
  have : 0 < 2 ^ j := Nat.two_pow_pos j
  omega
theorem uB (n i : Nat) : n % 2 ^ i ≤ n := Nat.mod_le _ _
theorem Ck (l : List K) (i : Nat) (h : i < 32) : (Ei p z l).parts.getD i z = partOf p z l i := by
 unfold Ei
 rw [List.getD_eq_getElem?_getD, List.getElem?_map, List.getElem?_range h]
 rfl
theorem Uk (l : List K) (x : K) : ∀ j, j ≤ 32 → (∀ k, k < j → gJ l.length k = true) → Mi p z (Ei p z l).parts x j = atR p z j ((l ++ [x]).drop (l.length + 1 - 2 ^ j))
 | 0, _, _ => by
  unfold Mi atR
  rw [show l.length + 1 - 2 ^ 0 = l.length by simp, List.drop_append, List.drop_of_length_le (Nat.le_refl _), Nat.sub_self]
  rfl
 | j + 1, h32, h => by
  have ih := Uk l x j (by omega) (fun k hk => h k (by omega))
  have hm := uz (n := l.length) (j + 1) h
  have hle := uB l.length (j + 1)
  have hp : 0 < 2 ^ j := Nat.two_pow_pos j
  have Zy : 2 ^ (j + 1) = 2 ^ j * 2 := Nat.pow_succ 2 j
  unfold Mi
  rw [ih, Ck p z l j (by omega)]
  unfold partOf
  rw [if_pos (h j (by omega)), hm, ← Je p z j _ _ (by rw [List.length_take, List.length_drop]; omega)]
  congr 1
  have e1 : l.length - (2 ^ (j + 1) - 1) = l.length + 1 - 2 ^ (j + 1) := by omega
  rw [e1, List.drop_append_of_le_length (by omega), List.drop_append_of_le_length (by omega), ← List.append_assoc]
  congr 1
  have e2 : l.length + 1 - 2 ^ j = (l.length + 1 - 2 ^ (j + 1)) + 2 ^ j := by omega
  rw [e2, ← List.drop_drop, List.take_append_drop]
theorem Nn (l : List K) (x : K) (j : Nat) (h1 : ∀ k, k < j → gJ l.length k = true) (h0 : gJ l.length j = false) (k : Nat) :
 partOf p z (l ++ [x]) k = if k < j then z else if k = j then atR p z j ((l ++ [x]).drop (l.length + 1 - 2 ^ j)) else partOf p z l k := by
 have hm := uz (n := l.length) j h1
 have hp : 0 < 2 ^ j := Nat.two_pow_pos j
 have hm1 : l.length % 2 ^ (j + 1) = 2 ^ j - 1 := by rw [kN, h0, hm]; simp
 have hle := uB l.length (j + 1)
 have hsucc : ∀ k, j < k → (l.length + 1) % 2 ^ k = l.length % 2 ^ k + 1 ∧ (l.length + 1) / 2 ^ k = l.length / 2 ^ k := by
  intro k hk
  have hq : l.length % 2 ^ k + 1 < 2 ^ k := by
   obtain ⟨d, rfl⟩ : ∃ d, k = j + 1 + d := ⟨k - (j + 1), by omega⟩
   clear hk
   induction d with
   | zero =>
    rw [Nat.add_zero, hm1, Nat.pow_succ]
    omega
   | succ d ih =>
    rw [show j + 1 + (d + 1) = (j + 1 + d) + 1 from rfl, kN, Nat.pow_succ]
    split <;> omega
  have h5 := Nat.div_add_mod l.length (2 ^ k)
  have hpk : 0 < 2 ^ k := Nat.two_pow_pos k
  refine ⟨?_, ?_⟩
  ·rw [← h5, Nat.add_assoc, Nat.mul_add_mod, Nat.mul_add_mod, Nat.mod_eq_of_lt hq, Nat.mod_mod]
  ·conv => lhs; rw [← h5]
   rw [Nat.add_assoc, Nat.mul_add_div hpk, Nat.div_eq_of_lt hq, Nat.add_zero]
 have hlen : (l ++ [x]).length = l.length + 1 := by simp
 unfold partOf
 rw [hlen]
 by_cases hkj : k < j
 ·rw [if_pos hkj]
  have : gJ (l.length + 1) k = false := by
   have hmk := uz (n := l.length) (k + 1) (fun i hi => h1 i (by omega))
   have hpk : 0 < 2 ^ k := Nat.two_pow_pos k
   have hdvd : (l.length + 1) % 2 ^ (k + 1) = 0 := by
    rw [Nat.add_mod, hmk]
    have : 2 ^ (k + 1) = 2 ^ k * 2 := Nat.pow_succ 2 k
    rw [Nat.mod_eq_of_lt (show 1 < 2 ^ (k + 1) by omega), Nat.sub_add_cancel (by omega), Nat.mod_self]
   have h7 := kN (l.length + 1) k
   rw [hdvd] at h7
   cases hb : gJ (l.length + 1) k with
   | false => rfl
   | true => rw [hb, if_pos rfl] at h7; omega
  rw [if_neg (by rw [this]; decide)]
 ·rw [if_neg hkj]
  by_cases hk : k = j
  ·subst hk
   rw [if_pos rfl]
   have hs := hsucc (k + 1) (by omega)
   have hbit : gJ (l.length + 1) k = true := by
    have h7 := kN (l.length + 1) k
    rw [hs.1, hm1] at h7
    cases hb : gJ (l.length + 1) k with
    | true => rfl
    | false =>
     rw [hb] at h7
     have := Nat.mod_lt (l.length + 1) hp
     simp at h7
     omega
   rw [if_pos hbit, hs.1, hm1]
   have e1 : l.length + 1 - (2 ^ k - 1 + 1) = l.length + 1 - 2 ^ k := by omega
   rw [e1, List.take_of_length_le (by rw [List.length_drop, hlen]; omega)]
  ·rw [if_neg hk]
   have hs := hsucc k (by omega)
   have hs1 := hsucc (k + 1) (by omega)
   have hbit : gJ (l.length + 1) k = gJ l.length k := by unfold gJ; rw [hs.2]
   rw [hbit]
   by_cases hb : gJ l.length k = true
   ·rw [if_pos hb, if_pos hb, hs1.1]
    have h8 := kN l.length k
    rw [hb, if_pos rfl] at h8
    have h9 := uB l.length (k + 1)
    rw [show l.length + 1 - (l.length % 2 ^ (k + 1) + 1) = l.length - l.length % 2 ^ (k + 1) by omega, List.drop_append_of_le_length (by omega), List.take_append_of_le_length (by rw [List.length_drop]; omega)]
   ·rw [if_neg hb, if_neg hb]
theorem oN (c : Nat) : ∀ (n i : Nat) (P : List K) (x : K), (ni p z c n i P x).length = P.length
 | 0, i, P, x => by unfold ni; rw [List.length_set]
 | n + 1, i, P, x => by
  unfold ni
  split
  ·rw [oN c n, List.length_set]
  ·rw [List.length_set]
theorem TT (l : List K) (x : K) (h : l.length < 4294967295) : V4 p z (Ei p z l) x = (Ei p z (l ++ [x]), 0) := by
 unfold V4
 rw [show (Ei p z l).count = l.length from rfl, if_neg (by omega)]
 obtain ⟨j0, hj0, hb0⟩ := AX h
 obtain ⟨j, hj, h1, h0, hc⟩ := vX p z l.length (Ei p z l).parts x 32 0 (Ei p z l).parts (fun _ _ => rfl) (by simp [Ei]) (by omega) (fun k hk => by omega) (fun k hk => by omega) ⟨j0, by omega, by omega, hj0, hb0⟩
 have hu := Uk p z l x j (by omega) h1
 congr 1
 unfold Ei
 rw [show (l ++ [x]).length = l.length + 1 by simp]
 congr 1
 apply List.ext_getElem?
 intro k
 by_cases hk : k < 32
 ·have h2 := hc k hk
  rw [show Mi p z (Ei p z l).parts x 0 = x from rfl] at h2
  rw [show (Ei p z l).parts = (List.range 32).map (partOf p z l) from rfl] at h2
  rw [h2, List.getElem?_map, List.getElem?_range hk, Option.map_some, Nn p z l x j h1 h0 k]
  congr 1
  split
  ·rfl
  ·split
   ·exact hu
   ·exact Ck p z l k hk
 ·rw [List.getElem?_eq_none (by rw [oN]; simp; omega), List.getElem?_eq_none (by simp; omega)]
theorem DU (l : List K) : ∀ i, i ≤ 32 → xW p z (Ei p z l) i = atR p z i (l.drop (l.length - l.length % 2 ^ i))
 | 0, _ => by
  unfold xW
  rw [show l.length - l.length % 2 ^ 0 = l.length by simp [Nat.mod_one], List.drop_of_length_le (Nat.le_refl _)]
  rfl
 | i + 1, h32 => by
  have ih := DU l i (by omega)
  unfold xW
  rw [ih, show (Ei p z l).count = l.length from rfl, Ck p z l i (by omega)]
  have hm := kN l.length i
  have hle := uB l.length (i + 1)
  have hlt := Nat.mod_lt l.length (Nat.two_pow_pos i)
  unfold partOf
  by_cases hb : gJ l.length i = true
  ·rw [if_pos hb, if_pos hb]
   rw [hb, if_pos rfl] at hm
   rw [← Je p z i _ _ (by rw [List.length_take, List.length_drop]; omega)]
   congr 1
   rw [show l.length - l.length % 2 ^ i = (l.length - l.length % 2 ^ (i + 1)) + 2 ^ i by omega, ← List.drop_drop, List.take_append_drop]
  ·rw [if_neg hb]
   rw [if_neg hb] at hm
   rw [show l.length % 2 ^ (i + 1) = l.length % 2 ^ i by omega]
   exact (TS p z i _ (by rw [List.length_drop]; omega)).symm
theorem DT (l : List K) (h : l.length < 4294967296) : Ur p z (Ei p z l) = atR p z 32 l := by
 unfold Ur
 rw [DU p z l 32 (Nat.le_refl _), Nat.mod_eq_of_lt (by omega), Nat.sub_self, List.drop_zero]
theorem Av (l : List K) (i : Nat) (h : gJ l.length i = false) : partOf p z l i = z := by
 unfold partOf
 rw [if_neg (by rw [h]; decide)]
end
end
section
open Go.RowKit
structure fD where
 c : Nat
 P : List aS
 hc : c < 4294967296
 hP : P.length = 32
def fD.V (t : fD) : rO aS := ⟨t.c, t.P⟩
theorem fD.ext' {t u : fD} (h : t.V = u.V) : t = u := by
 cases t; cases u
 simp only [fD.V, rO.mk.injEq] at h
 obtain ⟨rfl, rfl⟩ := h
 rfl
def fD.cells (t : fD) : List Value := .int .u32 t.c :: cellsOf ak t.P
theorem fD.len (t : fD) : t.cells.length = 1025 := by
 unfold fD.cells
 rw [List.length_cons, aT aC, t.hP]
theorem fD.one (t : fD) : ∀ v ∈ t.cells, v.oneCell' = true := by
 intro v hv
 unfold fD.cells at hv
 rcases List.mem_cons.1 hv with rfl | hv
 ·rfl
 ·exact dB fI _ v hv
theorem gz : cZ Tryz.prog 29 fD.cells 1025 := ⟨by kernel_rfl, fD.len, fD.one, Tryz.isAgg29⟩
structure xg where
 l : List aS
 h : l.length = 33
def xg.cells (x : xg) : List Value := cellsOf ak x.l
theorem xg.len (x : xg) : x.cells.length = 1056 := by unfold xg.cells; rw [aT aC, x.h]
theorem xg.one (x : xg) : ∀ v ∈ x.cells, v.oneCell' = true := dB fI _
theorem Ze : cZ Tryz.prog 62 xg.cells 1056 := ⟨by kernel_rfl, xg.len, xg.one, Tryz.isAgg62⟩
theorem DR {w : World} {g off : Nat} {l : List aS} (h : au w g off (cellsOf ak l)) (i : Nat) (hi : i < l.length) : au w g (off + i * 32) (ak l[i]) := by
 intro j v hj
 have Vu : j < 32 := by have := (List.getElem?_eq_some_iff.1 hj).1; rwa [aC] at this
 have h1 : (cellsOf ak l)[i * 32 + j]? = some v := by
  rw [oM aC l i hi j Vu]; exact hj
 have := h (i * 32 + j) v h1
 rwa [show off + i * 32 + j = off + (i * 32 + j) by omega]
theorem Hy (a b : List aS) (x k : aS) : (cellsOf ak (a ++ x :: b)).take (a.length * 32) ++ ak k ++ (cellsOf ak (a ++ x :: b)).drop (a.length * 32 + 32) = cellsOf ak (a ++ k :: b) := by
 have hl : (cellsOf ak a).length = a.length * 32 := aT aC _
 have hx : (ak x).length = 32 := aC _
 rw [bS, bS, show cellsOf ak (x :: b) = ak x ++ cellsOf ak b by simp [cellsOf], show cellsOf ak (k :: b) = ak k ++ cellsOf ak b by simp [cellsOf]]
 rw [List.take_append_of_le_length (by omega), List.take_of_length_le (by omega), List.drop_append, List.drop_of_length_le (by omega), List.nil_append, hl, show a.length * 32 + 32 - a.length * 32 = 32 by omega, List.drop_append, List.drop_of_length_le (by omega), List.nil_append, hx]
 simp
theorem Bg (l : List aS) (i : Nat) (k : aS) (hi : i < l.length) : (cellsOf ak l).take (i * 32) ++ ak k ++ (cellsOf ak l).drop (i * 32 + 32) = cellsOf ak (l.set i k) := by
 have e1 : l.take i ++ l[i] :: l.drop (i + 1) = l := by rw [List.getElem_cons_drop, List.take_append_drop]
 have e2 : l.set i k = l.take i ++ k :: l.drop (i + 1) := by
  rw [List.set_eq_take_append_cons_drop, if_pos hi]
 have h := Hy (l.take i) (l.drop (i + 1)) l[i] k
 rw [e1, ← e2, List.length_take, Nat.min_eq_left (by omega)] at h
 exact h
section
variable {w : World} {g : Nat} {t : fD}
theorem fD.c0 (h : au w g 0 t.cells) : w.cell? ⟨g, 0, none⟩ = some (.int .u32 t.c) := h.head
theorem fD.c1 (h : au w g 0 t.cells) (i : Nat) (hi : i < 32) : au w g (1 + i * 32) (ak (t.P[i]'(by rw [t.hP]; exact hi))) := DR (off := 1) h.tail i (by rw [t.hP]; exact hi)
def fD.wR (t : fD) (i : Nat) (k : aS) : fD := ⟨t.c, t.P.set i k, t.hc, by rw [List.length_set]; exact t.hP⟩
def fD.JF (t : fD) (c : Nat) (hc : c < 4294967296) : fD := ⟨c, t.P, hc, t.hP⟩
theorem fD.tV (t : fD) (i : Nat) (hi : i < 32) (k : aS) : t.cells.take (1 + i * 32) ++ ak k ++ t.cells.drop (1 + i * 32 + 32) = (t.wR i k).cells := by
 unfold fD.cells fD.wR
 simp only
 rw [← Bg t.P i k (by rw [t.hP]; exact hi)]
 rw [show 1 + i * 32 = (i * 32) + 1 by omega, List.take_succ_cons, show i * 32 + 1 + 32 = (i * 32 + 32) + 1 by omega, List.drop_succ_cons]
 rfl
theorem fD.JD (t : fD) (c : Nat) (hc : c < 4294967296) : t.cells.toArray.setIfInBounds 0 (.int .u32 c) = (t.JF c hc).cells.toArray := by
 simp [fD.cells, fD.JF]
end
def xg.Va (x : xg) (i : Nat) (k : aS) : xg := ⟨x.l.set i k, by rw [List.length_set]; exact x.h⟩
theorem xg.Rw (x : xg) (i : Nat) (hi : i < 33) (k : aS) : x.cells.take (i * 32) ++ ak k ++ x.cells.drop (i * 32 + 32) = (x.Va i k).cells := Bg x.l i k (by rw [x.h]; exact hi)
theorem xg.at (x : xg) {w : World} {g : Nat} (h : au w g 0 x.cells) (i : Nat) (hi : i < 33) : au w g (i * 32) (ak (x.l[i]'(by rw [x.h]; exact hi))) := by
 have := DR h i (by rw [x.h]; exact hi)
 rwa [Nat.zero_add] at this
def zE : xg := ⟨List.replicate 33 ai, by simp⟩
def zT : fD := ⟨0, List.replicate 32 ai, by decide, by simp⟩
theorem Da : ((Tryz.prog.info? 62).bind (·.zero)) = some (.agg zE.cells.toArray) := by kernel_rfl
theorem gY : ((Tryz.prog.info? 29).bind (·.zero)) = some (.agg zT.cells.toArray) := by kernel_rfl
theorem Ir : zE.cells.toArray.size = 1055 + 1 := by rw [List.size_toArray, zE.len]
theorem jJ : zT.cells.toArray.size = 1024 + 1 := by rw [List.size_toArray, zT.len]
end
section
open Go.RowKit
theorem JZ (a b : List UInt8) : (rF a b).length = 32 := by simp [rF, ng, eO]
def fC (a b : aS) : aS := ⟨rF a.1 b.1, JZ _ _⟩
theorem Cf (a b : aS) (w : World) :
 Calls Tryz.prog 22 #[.agg (ak a).toArray, .agg (ak b).toArray] w fun e w' => e = .returned (.agg (ak (fC a b)).toArray) ∧ Below w.heap.size w w' := by
 rw [dQ, dQ, dQ]
 exact DW a.1 b.1 a.2 b.2 w
end
section
open Go.RowKit
abbrev gQ (i : Nat) : aS := Hl fC ai i
def xu (i : Nat) (h : i ≤ 32) : xg := ⟨(List.range (i + 1)).map gQ ++ List.replicate (32 - i) ai, by simp; omega⟩
theorem Ov : xu 0 (by omega) = zE := rfl
theorem SA (i : Nat) (h : i < 32) : (xu i (by omega)).Va (i + 1) (gQ (i + 1)) = xu (i + 1) (by omega) := by
 unfold xu xg.Va
 congr 1
 simp only
 rw [List.set_append_right _ _ (by simp), show (List.map gQ (List.range (i + 1))).length = i + 1 by simp, Nat.sub_self, show 32 - i = (32 - (i + 1)) + 1 by omega, List.replicate_succ, List.set_cons_zero, List.range_succ (n := i + 1), List.map_append]
 simp
theorem SE (i : Nat) (h : i ≤ 32) (hi : i < (xu i h).l.length) : (xu i h).l[i] = gQ i := by
 apply Option.some.inj
 rw [← List.getElem?_eq_getElem]
 show (List.map gQ (List.range (i + 1)) ++ List.replicate (32 - i) ai)[i]? = _
 rw [List.getElem?_append_left (by simp)]
 simp
theorem SB (k : Nat) (h : k < 32) : (xu (k + 1) (by omega)).l[k]'(by rw [(xu (k + 1) (by omega)).h]; omega) = gQ k := by
 apply Option.some.inj
 rw [← List.getElem?_eq_getElem]
 show (List.map gQ (List.range (k + 1 + 1)) ++ List.replicate (32 - (k + 1)) ai)[k]? = _
 rw [List.getElem?_append_left (by simp; omega), List.getElem?_map, List.getElem?_range (by omega)]
 rfl
theorem aU {P : Program} {fn : Func} {p : Tmp} {ty : TypeId} (h : fn.results = #[.cell p ty]) (tmps : Array Value) (w : World) (g : Nat) (t : TypeId) (cs : Array Value) (fr : Nat × Nat) (d : TypeDesc)
 (hp : tmps.getD p undef = .pointer (some ⟨g, 0, none⟩)) (hg : w.heap[g]? = some (.cells cs t fr))
 (hu : P.underlying ty = some d) (hd : (match d with | .struct _ | .array _ _ => true | _ => false) = true) (hi : (P.info? ty).map (·.size) = some cs.size) :
 (results fn tmps).run P w = .ok (.agg cs) w := by
 have hp' : tmps[p]?.getD undef = .pointer (some ⟨g, 0, none⟩) := by simpa using hp
 simp [results, h, hp', asAddr, run_loadVar_row w g t ty cs fr d hg hu hd hi]
structure WA (w : World) (Z : Array Value) (x : xg) (W : World) : Prop where
 below : Below w.heap.size w W
 z : ax W w.heap.size 62 Z
 e : ax W (w.heap.size + 1) 62 x.cells.toArray
theorem WA.call {w W W' : World} {Z : Array Value} {x : xg} (h : WA w Z x W) (hb : Below W.heap.size W W') : WA w Z x W' :=
 ⟨h.below.trans (hb.mono h.below.size), aa hb h.z h.z.lt, aa hb h.e h.e.lt⟩
theorem WA.drew {w W : World} {Z : Array Value} {x : xg} (h : WA w Z x W) : WA w Z x W.drew := ⟨h.below.drew, h.z, h.e⟩
theorem Ow {w : World} {g k : Nat} (hk : k ≤ 32) (h : ax w g 62 (xu k hk).cells.toArray) : au w g (k * 32) (ak (gQ k)) := by
 have CK := (xu k hk).at (au.ah h) k (by omega)
 rwa [SE k hk (by rw [(xu k hk).h]; omega)] at CK
end
section
open Go.RowKit
abbrev wO (P : List aS) (x : aS) (i : Nat) : aS := Mi fC ai P x i
def nT (t : fD) (k : aS) : fD × Int :=
 if h : t.c = 4294967295 then (zT, 2) else (⟨t.c + 1, ni fC ai t.c 32 0 t.P k, by have := t.hc; omega, by rw [oN]; exact t.hP⟩, 0)
def jr (t : fD) (i : Nat) (h : i ≤ 32) : fD := ⟨t.c, List.replicate i ai ++ t.P.drop i, t.hc, by rw [List.length_append, List.length_replicate, List.length_drop, t.hP]; omega⟩
theorem AR (t : fD) (i : Nat) (h : i < 32) : (jr t i (by omega)).wR i ai = jr t (i + 1) (by omega) := by
 unfold jr fD.wR
 congr 1
 simp only
 rw [List.set_append_right _ _ (by simp), List.length_replicate, Nat.sub_self, List.replicate_succ', List.append_assoc]
 congr 1
 rw [← List.getElem_cons_drop (by rw [t.hP]; exact h)]
 rfl
theorem KC (t : fD) (i : Nat) (h : i < 32) : (jr t i (by omega)).P[i]'(by rw [(jr t i (by omega)).hP]; exact h) = t.P.getD i ai := by
 apply Option.some.inj
 rw [← List.getElem?_eq_getElem]
 show (List.replicate i ai ++ t.P.drop i)[i]? = _
 rw [List.getElem?_append_right (by simp), List.length_replicate, Nat.sub_self, List.getElem?_drop, Nat.add_zero, List.getD_eq_getElem?_getD, List.getElem?_eq_getElem (by rw [t.hP]; exact h)]
 rfl
theorem Qf (t : fD) (x : aS) (j : Nat) (hj : j < 32) (h1 : ∀ k, k < j → gJ t.c k = true) (h0 : gJ t.c j = false) :
 ni fC ai t.c 32 0 t.P x = (List.replicate j ai ++ t.P.drop j).set j (wO t.P x j) := by
 obtain ⟨j', hj', h1', h0', hc⟩ := vX fC ai t.c t.P x 32 0 t.P (fun _ _ => rfl) t.hP (by omega) (fun k hk => by omega) (fun k hk => by omega) ⟨j, by omega, by omega, hj, h0⟩
 obtain rfl : j' = j := by
  rcases Nat.lt_trichotomy j' j with h | h | h
  ·rw [h1 j' h] at h0'; cases h0'
  ·exact h
  ·rw [h1' j h] at h0; cases h0
 apply List.ext_getElem?
 intro k
 by_cases hk : k < 32
 ·have h2 := hc k hk
  rw [show Mi fC ai t.P x 0 = x from rfl] at h2
  rw [h2]
  by_cases h3 : k < j'
  ·rw [if_pos h3, List.getElem?_set_ne (by omega), List.getElem?_append_left (by simpa using h3), List.getElem?_replicate, if_pos h3]
  ·rw [if_neg h3]
   by_cases h4 : k = j'
   ·rw [if_pos h4, h4, List.getElem?_set_self (by rw [List.length_append, List.length_replicate, List.length_drop, t.hP]; omega)]
   ·rw [if_neg h4, List.getElem?_set_ne (by omega), List.getElem?_append_right (by simp; omega), List.length_replicate, List.getElem?_drop, show j' + (k - j') = k by omega, List.getD_eq_getElem?_getD, List.getElem?_eq_getElem (by rw [t.hP]; exact hk)]
    rfl
 ·rw [List.getElem?_eq_none (by rw [oN, t.hP]; omega), List.getElem?_eq_none (by rw [List.length_set, List.length_append, List.length_replicate, List.length_drop, t.hP]; omega)]
theorem Qq (c n : Nat) (hc : c < 4294967296) : (bits BinOp.and IntKind.u32 ((c : Int) / 2 ^ n) 1 == 1) = gJ c n := by
 have h1 : (c : Int) / 2 ^ n = ((c / 2 ^ n : Nat) : Int) := by
  rw [Int.natCast_ediv]
  norm_cast
 have h2 : c / 2 ^ n < 4294967296 := Nat.lt_of_le_of_lt (Nat.div_le_self _ _) hc
 rw [h1, show (1 : Int) = ((1 : Nat) : Int) from rfl, u32_and_nat _ 1 h2 (by omega), Nat.and_one_is_mod]
 unfold gJ
 rw [Bool.eq_iff_iff, beq_iff_eq, decide_eq_true_iff]
 omega
theorem Bo {t : fD} (k : aS) (h : t.c = 4294967295) : nT t k = (zT, 2) := by unfold nT; rw [dif_pos h]
theorem Bn {t : fD} (k : aS) (h : t.c ≠ 4294967295) : (nT t k).2 = 0 := by unfold nT; rw [dif_neg h]
end
section
open Go.RowKit
def allT : fD → List aS → fD × Int
 | t, [] => (t, 0)
 | t, x :: l => if (nT t x).2 = 0 then allT (nT t x).1 l else (zT, (nT t x).2)
theorem Qs (t : fD) (k : aS) : (nT t k).2 = 0 ∨ (nT t k).2 = 2 := by
 by_cases h : t.c = 4294967295
 ·rw [Bo k h]; exact .inr rfl
 ·exact .inl (Bn k h)
end
section
open Go.RowKit
abbrev pF (t : fD) (i : Nat) : aS := xW fC ai t.V i
theorem Ox {w : World} {g k : Nat} (hk : k < 32) (h : ax w g 62 (xu 32 (by omega)).cells.toArray) : au w g (k * 32) (ak (gQ k)) := by
 have h1 := (xu 32 (by omega)).at (au.ah h) k (by omega)
 have h2 : (xu 32 (by omega)).l[k]'(by rw [(xu 32 (by omega)).h]; omega) = gQ k := by
  apply Option.some.inj
  rw [← List.getElem?_eq_getElem]
  show (List.map gQ (List.range (32 + 1)) ++ List.replicate (32 - 32) ai)[k]? = _
  rw [List.getElem?_append_left (by simp; omega), List.getElem?_map, List.getElem?_range (by omega)]
  rfl
 rwa [h2] at h1
end
section
open Go.RowKit
structure rM where
 tx : aS
 item : aQ .i64
 good : Bool
deriving DecidableEq
def gu (x : rM) : List Value := ak x.tx ++ [.int .i64 x.item.1, .bool x.good]
theorem Bd (x : rM) : (gu x).length = 34 := by unfold gu; rw [List.length_append, aC]; rfl
theorem KU (x : rM) : ∀ v ∈ gu x, v.oneCell' = true := by
 intro v hv
 unfold gu at hv
 rcases List.mem_append.1 hv with h | h
 ·exact fI _ v h
 ·simp only [List.mem_cons, List.not_mem_nil, or_false] at h
  rcases h with rfl | rfl <;> rfl
def UD : List rM → aS → Int → Bool
 | [], _, _ => false
 | x :: l, id, it => if x.tx = id ∧ x.item.1 = it then x.good else UD l id it
def Yw (l : List rM) (id : aS) (n : Int) : Bool := (List.range n.toNat).all fun i => UD l id (i : Int)
def QT (i : Nat) : aQ .i64 := if h : i ≤ 1000000 then ⟨(i : Int), by rw [wf_i64]; omega⟩ else ⟨0, by decide⟩
theorem Q6 {i : Nat} (h : i ≤ 1000000) : (QT i).1 = (i : Int) := by unfold QT; rw [dif_pos h]
def mM (id : aS) (n : Nat) : List rM := (List.range n).map fun i => ⟨id, QT i, true⟩
theorem lu (id : aS) (n : Nat) : (mM id n).length = n := by unfold mM; rw [List.length_map, List.length_range]
theorem GY (id : aS) (n : Nat) : mM id n ++ [⟨id, QT n, true⟩] = mM id (n + 1) := by unfold mM; rw [List.range_succ, List.map_append]; rfl
def jq (id : aS) (n : Int) : List rM := if 1000 < n then [] else mM id n.toNat
theorem uJ (id : aS) (n : Int) : (jq id n).length ≤ 1000 := by
 unfold jq
 split
 ·simp
 ·rw [lu]; omega
theorem U3 : cu Tryz.prog 77 243 gu 34 := ⟨Tryz.underlying77, by kernel_rfl, Bd, KU, Tryz.isAgg243, by omega⟩
theorem ZV : ((Tryz.prog.info? 243).bind (·.zero)).map (·.cells.size) = some 34 := by kernel_rfl
theorem ZX : (Tryz.prog.info? 243).map (·.bytes) = some 48 := by kernel_rfl
end
section
open Go.RowKit
theorem Dj {w : World} {g : Nat} {base : Nat} {e : TypeId} {k : Nat} (hb : ax w g e #[]) (hg : base ≤ g) : w.ownsRow base e k (.slice (some ⟨g, 0, none⟩) 0 0) 0 [] :=
 ⟨by simp, .inr ⟨g, 0, #[], rfl, hg, hb, Nat.le_refl _, Nat.zero_le _, by simp, by simp⟩⟩
theorem FU {w w' : World} {base : Nat} {e : TypeId} {size n : Nat} {v : Value} {xs : List Value} (h : w.ownsRow base e size v n xs) (hg : w.grownBy w' v.ownBlock) (hB : base ≤ w.heap.size) : Below base w w' := (Below.refl _ _).grown hg hB (iG h)
theorem U2 (t : TypeId) (ht : t = 243 ∨ t = 243) (k : aS) (z : aQ .i64) (b : Bool) : Tryz.prog.built t [(0, .agg (ak k).toArray), (1, .int .i64 z.1), (2, .bool b)] = some (gu ⟨k, z, b⟩).toArray := by
 obtain ⟨l, hl⟩ := k
 iterate 32 (rcases l with _ | ⟨b, l⟩; · simp at hl)
 rcases l with _ | ⟨b, l⟩
 ·rcases ht with rfl | rfl <;> kernel_rfl
 ·simp at hl
def gP (T : dX) : Int := wrap64 (wrap64 ((T.ins.length : Int) + T.av.length) + T.notes.length)
end
section
open Go.RowKit
def EU (e h : Int) : Bool := decide (e ≠ 0) && decide (e < h)
def Ev (e : Int) : Prop := 0 ≤ e ∧ e < 4294967296
def Wx : Prop := ∀ (e h : Int) (w : World), Ev e → Ev h → Calls Tryz.prog 200 #[.int .u32 e, .int .u32 h] w fun x w' => x = .returned (.bool (EU e h)) ∧ Below w.heap.size w w'
end
section
structure zu where
 h : aQ .u32
 aV : List aD
 av : List aS
 ring : List aS
 pool : Int
 came : Int
 jv : Int
structure C0 where
 h : aQ .u32
 gB : aS
 aV : List aD
 av : List aS
 tree : fD
 ring : List aS
 pool : Int
structure CV where
 c : C0
 past : List (bK × C0)
def sU (h : aQ .u32) : aQ .u32 := ⟨(h.1 + 1) % 4294967296, wf_u32.2 (by omega)⟩
def rY (pool came dW : Int) : Option (Int × Int) := if 0 < dW then (rX pool dW).map fun n => (n, came) else (aaX came (-dW)).map fun n => (pool, n)
def Gd (sp : List aD) : List Int := sp.map fun c => c.out.1.1
def TV (w : zu) (T : dX) (l : List rM) : Except Int (zu × Int) :=
 if fB T false ≠ 0 then .error (fB T false)
 else if EU T.exp.1 w.h.1 = true then .error 120
 else if Yw l (wC T).1 (gP T) = false then .error 150
 else match iH w.aV T (wC T).1 w.h with
 | .error e => .error e
 | .ok y =>
  if UL w.av T.av = false then .error 161
  else if 0 < T.av.length ∧ EE w.ring T.anchor = false then .error 162
  else match Tk (Gd y.2) (fV T) T.dW.1 with
  | none => .error 20
  | some f => match rY w.pool w.came T.dW.1 with
   | none => .error 167
   | some s => match aaX w.jv f with
    | none => .error 20
    | some n => .ok (⟨w.h, y.1, LP w.av T.av, w.ring, s.1, s.2, n⟩, f)
def qw (l : List rM) : zu → List dX → Except Int zu
 | w, [] => .ok w
 | w, T :: r => match TV w T l with
  | .error e => .error e
  | .ok y => qw l y.1 r
def dV (c : C0) : zu := ⟨sU c.h, c.aV, c.av, c.ring, c.pool, 0, 0⟩
def lW (T : dX) : Option Int := (gI 0 (fV T)).bind fun n => aaX n (-T.dW.1)
def kI (B : bK) : dX := B.bG.headD Kc
def jH (w : zu) (T : dX) : Except Int (List aD × Int) := match iH w.aV T (wC T).1 w.h with
 | .error e => .error e
 | .ok y => match rY w.pool w.came T.dW.1 with
  | none => .error 167
  | some s => match aaX s.1 s.2 with
   | none => .error 167
   | some p => if lW T = some (5000000 + w.jv) then .ok (y.1, p) else .error 165
def ja (t : fD) (B : bK) : Except Int fD :=
 if (allT t (dz B.bG)).2 ≠ 0 then .error (allT t (dz B.bG)).2
 else if pF (allT t (dz B.bG)).1 32 = B.root then .ok (allT t (dz B.bG)).1 else .error 164
def vW (c : C0) (B : bK) (l : List rM) : Except Int C0 :=
 if B.prev ≠ c.gB then .error 163
 else if (gX B).2 ≠ 0 then .error (gX B).2
 else if 20000 < (gX B).1.length ∨ 60 < jW B.bG then .error 51
 else if fB (kI B) true ≠ 0 then .error (fB (kI B) true)
 else if EU (kI B).exp.1 (sU c.h).1 = true then .error 120
 else match qw l (dV c) (B.bG.drop 1) with
 | .error e => .error e
 | .ok w => match jH w (kI B) with
  | .error e => .error e
  | .ok y => match ja c.tree B with
   | .error e => .error e
   | .ok t => .ok ⟨w.h, (qY B).1, y.1, w.av, t, ou c.ring B.root, y.2⟩
def kH (c : CV) (B : bK) (l : List rM) : Except Int CV := match vW c.c B l with
 | .error e => .error e
 | .ok d => .ok ⟨d, bU 4 (c.past ++ [(B, c.c)])⟩
end
section
open Go.RowKit
theorem TM : ((Tryz.prog.info? 26).bind (·.zero)).map (·.cells.size) = some 32 := by kernel_rfl
theorem TN : (Tryz.prog.info? 26).map (·.bytes) = some 32 := by kernel_rfl
theorem Yv : ((Tryz.prog.info? 26).bind (·.zero)).isSome = true := by kernel_rfl
def encR (x : Option Addr × Nat × Nat) : List Value := [.slice x.1 x.2.1 x.2.2]
theorem kK {P : Program} {fn : Func} {p : Tmp} {ty : TypeId} (h : fn.results = #[.cell p ty]) (tmps : Array Value) (w : World) (g : Nat) (t : TypeId) (cs : Array Value) (d : TypeDesc)
 (hp : tmps.getD p undef = .pointer (some ⟨g, 0, none⟩)) (hg : ax w g t cs)
 (hu : P.underlying ty = some d) (hd : (match d with | .struct _ | .array _ _ => true | _ => false) = true) (hi : (P.info? ty).map (·.size) = some cs.size) :
 (results fn tmps).run P w = .ok (.agg cs) w := by
 have hp' : tmps[p]?.getD undef = .pointer (some ⟨g, 0, none⟩) := by simpa using hp
 simp [results, h, hp', asAddr, run_loadVar_row w g t ty cs (0, 0) d hg hu hd hi]
end
section
open Go.RowKit
def YF : Prop := ∀ (A : Option Addr) (c : Nat) (l : List aS) (k : aS) (w : World), l.length ≤ 200 → aK ak 32 w w.heap.size A c l → Calls Tryz.prog 11 #[.agg #[.slice A l.length c], .agg (ak k).toArray] w fun e w' => e = .returned (.bool (EE l k)) ∧ Below w.heap.size w w'
theorem rV : cZ Tryz.prog 35 encR 1 := ⟨by kernel_rfl, fun _ => rfl, fun x v hv => by simp only [encR, List.mem_singleton] at hv; subst hv; rfl, Tryz.isAgg35⟩
end
section
open Go.RowKit
structure jE where
 W : zu
 Ac : Option Addr
 cc : Nat
 An : Option Addr
 cn : Nat
 Ar : Option Addr
 cr : Nat
def jE.cells (a : jE) : List Value := [.int .u32 a.W.h.1, .slice a.Ac a.W.aV.length a.cc, .slice a.An a.W.av.length a.cn, .slice a.Ar a.W.ring.length a.cr, .int .i64 a.W.pool, .int .i64 a.W.came, .int .i64 a.W.jv]
theorem jE.len (a : jE) : a.cells.length = 7 := rfl
theorem jE.one (a : jE) : ∀ v ∈ a.cells, v.oneCell' = true := by
 intro v hv
 simp only [jE.cells, List.mem_cons, List.not_mem_nil, or_false] at hv
 rcases hv with rfl | rfl | rfl | rfl | rfl | rfl | rfl <;> rfl
theorem pJ : cZ Tryz.prog 137 jE.cells 7 := ⟨by kernel_rfl, jE.len, jE.one, Tryz.isAgg137⟩
def aac : zu := ⟨dF 0, [], [], [], 0, 0, 0⟩
def yD : jE := ⟨aac, none, 0, none, 0, none, 0⟩
structure eT where
 C : C0
 Ac : Option Addr
 cc : Nat
 An : Option Addr
 cn : Nat
 Ar : Option Addr
 cr : Nat
def eT.cells (a : eT) (Ap : Option Addr) (n cp : Nat) : List Value :=
 .int .u32 a.C.h.1 :: (ak a.C.gB ++ (.slice a.Ac a.C.aV.length a.cc :: .slice a.An a.C.av.length a.cn :: (a.C.tree.cells ++ [.slice a.Ar a.C.ring.length a.cr, .int .i64 a.C.pool, .slice Ap n cp])))
structure eT.In (w : World) (B : Nat) (a : eT) : Prop where
 aV : aK aX 68 w B a.Ac a.cc a.C.aV
 av : aK ak 32 w B a.An a.cn a.C.av
 ring : aK ak 32 w B a.Ar a.cr a.C.ring
theorem eT.len (a : eT) (Ap : Option Addr) (n cp : Nat) : (a.cells Ap n cp).length = 1063 := by
 unfold eT.cells
 rw [List.length_cons, List.length_append, aC, List.length_cons, List.length_cons, List.length_append, a.C.tree.len]
 rfl
theorem eT.one (a : eT) (Ap : Option Addr) (n cp : Nat) : ∀ v ∈ a.cells Ap n cp, v.oneCell' = true := by
 intro v hv
 unfold eT.cells at hv
 simp only [List.mem_cons, List.mem_append, List.not_mem_nil, or_false] at hv
 rcases hv with rfl | h | rfl | rfl | h | rfl | rfl | rfl
 ·rfl
 ·exact fI _ v h
 ·rfl
 ·rfl
 ·exact a.C.tree.one v h
 ·rfl
 ·rfl
 ·rfl
structure eB where
 b : bF
 c : eT
 Ap : Option Addr
 cp : Nat
def eB.cells (s : eB) : List Value := s.b.cells ++ s.c.cells s.Ap 0 s.cp
def eB.S (s : eB) : bK × C0 := (s.b.B, s.c.C)
structure eB.In (w : World) (B : Nat) (s : eB) : Prop where
 b : s.b.In w B
 c : s.c.In w B
 m : s.cp ≤ maxLen
theorem eB.len (s : eB) : s.cells.length = 1129 := by unfold eB.cells; rw [List.length_append, s.b.len, s.c.len]
theorem eB.one (s : eB) : ∀ v ∈ s.cells, v.oneCell' = true := by
 intro v hv
 rcases List.mem_append.1 hv with h | h
 ·exact s.b.one v h
 ·exact s.c.one _ _ _ v h
theorem Jn : cu Tryz.prog 43 340 eB.cells 1129 := ⟨Tryz.underlying43, by kernel_rfl, eB.len, eB.one, Tryz.isAgg340, by omega⟩
structure CA where
 c : eT
 past : List eB
 Ap : Option Addr
 cp : Nat
def CA.cells (a : CA) : List Value := a.c.cells a.Ap a.past.length a.cp
def CA.V (a : CA) : CV := ⟨a.c.C, a.past.map eB.S⟩
structure CA.In (w : World) (B : Nat) (a : CA) : Prop where
 c : a.c.In w B
 row : aK eB.cells 1129 w B a.Ap a.cp a.past
 each : ∀ s ∈ a.past, s.In w B
theorem CA.len (a : CA) : a.cells.length = 1063 := a.c.len _ _ _
theorem CA.one (a : CA) : ∀ v ∈ a.cells, v.oneCell' = true := a.c.one _ _ _
theorem cO : cZ Tryz.prog 45 CA.cells 1063 := ⟨by kernel_rfl, CA.len, CA.one, Tryz.isAgg45⟩
section
variable {w w' : World} {B B' : Nat}
theorem eT.In.below {a : eT} (h : a.In w B) (hb : Below B w w') : a.In w' B := ⟨h.aV.below hb, h.av.below hb, h.ring.below hb⟩
theorem eT.In.more {a : eT} (h : a.In w B) (hB : B ≤ B') : a.In w B' := ⟨h.aV.more hB, h.av.more hB, h.ring.more hB⟩
theorem eT.In.on {a : eT} (h : a.In w B) (hb : Below B w w') (hB : B ≤ w.heap.size) : a.In w' w'.heap.size := (h.below hb).more (Nat.le_trans hB hb.size)
theorem eB.In.below {a : eB} (h : a.In w B) (hb : Below B w w') : a.In w' B := ⟨h.b.below hb, h.c.below hb, h.m⟩
theorem eB.In.more {a : eB} (h : a.In w B) (hB : B ≤ B') : a.In w B' := ⟨h.b.more hB, h.c.more hB, h.m⟩
theorem CA.In.below {a : CA} (h : a.In w B) (hb : Below B w w') : a.In w' B := ⟨h.c.below hb, h.row.below hb, fun s hs => (h.each s hs).below hb⟩
theorem CA.In.more {a : CA} (h : a.In w B) (hB : B ≤ B') : a.In w B' := ⟨h.c.more hB, h.row.more hB, fun s hs => (h.each s hs).more hB⟩
theorem CA.In.on {a : CA} (h : a.In w B) (hb : Below B w w') (hB : B ≤ w.heap.size) : a.In w' w'.heap.size := (h.below hb).more (Nat.le_trans hB hb.size)
end
section
variable {w : World} {g o : Nat} {a : eT} {Ap : Option Addr} {n cp : Nat}
theorem eT.c0 (h : au w g o (a.cells Ap n cp)) : w.cell? ⟨g, o, none⟩ = some (.int .u32 a.C.h.1) := h.head
theorem eT.c1 (h : au w g o (a.cells Ap n cp)) : au w g (o + 1) (ak a.C.gB) := h.tail.left
theorem eT.c2 (h : au w g o (a.cells Ap n cp)) : w.cell? ⟨g, o + 33, none⟩ = some (.slice a.Ac a.C.aV.length a.cc) := by
 have := h.tail.right
 rw [aC] at this
 exact this.head
theorem eT.c3 (h : au w g o (a.cells Ap n cp)) : w.cell? ⟨g, o + 34, none⟩ = some (.slice a.An a.C.av.length a.cn) := by
 have := h.tail.right
 rw [aC] at this
 exact this.tail.head
theorem eT.r4 (h : au w g o (a.cells Ap n cp)) : au w g (o + 35) (a.C.tree.cells ++ [.slice a.Ar a.C.ring.length a.cr, .int .i64 a.C.pool, .slice Ap n cp]) := by
 have := h.tail.right
 rw [aC] at this
 exact this.tail.tail
theorem eT.c4 (h : au w g o (a.cells Ap n cp)) : au w g (o + 35) a.C.tree.cells := (eT.r4 h).left
theorem eT.r5 (h : au w g o (a.cells Ap n cp)) : au w g (o + 1060) [.slice a.Ar a.C.ring.length a.cr, .int .i64 a.C.pool, .slice Ap n cp] := by
 have := (eT.r4 h).right
 rw [a.C.tree.len] at this
 exact this
theorem eT.c5 (h : au w g o (a.cells Ap n cp)) : w.cell? ⟨g, o + 1060, none⟩ = some (.slice a.Ar a.C.ring.length a.cr) := (eT.r5 h).head
theorem eT.c6 (h : au w g o (a.cells Ap n cp)) : w.cell? ⟨g, o + 1061, none⟩ = some (.int .i64 a.C.pool) := (eT.r5 h).tail.head
theorem eT.c7 (h : au w g o (a.cells Ap n cp)) : w.cell? ⟨g, o + 1062, none⟩ = some (.slice Ap n cp) := (eT.r5 h).tail.tail.head
end
section
variable {w : World} {g o : Nat} {s : eB}
theorem eB.c0 (h : au w g o s.cells) : au w g o s.b.cells := h.left
theorem eB.c1 (h : au w g o s.cells) : au w g (o + 66) (s.c.cells s.Ap 0 s.cp) := by
 have := h.right
 rw [s.b.len] at this
 exact this
end
def Sy : C0 := ⟨dF 0, ai, [], [], zT, [], 0⟩
def UA : eT := ⟨Sy, none, 0, none, 0, none, 0⟩
def yE : CA := ⟨UA, [], none, 0⟩
end
section
open Go.RowKit
theorem Cy : (Tryz.prog.info? 2).map (fun i => (i.zero, i.size, i.bytes)) = some (some (.int .i64 0), 1, 8) := by kernel_rfl
end
end Go.Proofs.YtnpmpeoojncjhaaGreatDoor
