/- CodAll: CodP, CodR, CodS, CodA, CodB, CodC, CodT, CodD, CodE, CodV, CodU, CodF, in one text. -/
import Derived.WalkKit
import Derived.Test.YtimhophelecmjaaGenA
import Derived.BigQuiet
import Derived.Deep.RegionHeld3
/- Plain: numbers as bytes, lowest first; what codec's functions answer. No program is named here. -/
namespace Go.Proofs.Ytimhophelecmjaa
open Go.RowKit
def putB (n i : Nat) : UInt8 := UInt8.ofNat (n / 2 ^ (8 * i))
def putL (n w : Nat) : List UInt8 := (List.range w).map (putB n)
def getN (l : List UInt8) : Nat := l.foldr (fun b a => b.toNat + 256 * a) 0
theorem putL_succ (n w : Nat) : putL n (w + 1) = putL n w ++ [putB n w] := by
  unfold putL; rw [List.range_succ, List.map_append]; rfl
theorem putL_len (n w : Nat) : (putL n w).length = w := by simp [putL]
theorem putB_nat (n i : Nat) : (putB n i).toNat = n / 2 ^ (8 * i) % 256 := by
  unfold putB; rw [UInt8.toNat_ofNat']
theorem getN_cons (b : UInt8) (l : List UInt8) : getN (b :: l) = b.toNat + 256 * getN l := rfl
theorem getN_snoc (l : List UInt8) (b : UInt8) : getN (l ++ [b]) = getN l + 2 ^ (8 * l.length) * b.toNat := by
  induction l with
  | nil => simp [getN]
  | cons a l ih =>
    rw [List.cons_append, getN_cons, getN_cons, ih, List.length_cons, Nat.mul_add, Nat.mul_add, Nat.pow_add, ← Nat.add_assoc, ← Nat.mul_assoc, Nat.mul_comm (2 ^ (8 * l.length)) (2 ^ (8 * 1))]
theorem getN_lt (l : List UInt8) : getN l < 2 ^ (8 * l.length) := by
  induction l with
  | nil => simp [getN]
  | cons a l ih =>
    have := a.toNat_lt
    rw [getN_cons, List.length_cons, Nat.mul_add, Nat.pow_add, show 2 ^ (8 * 1) = 256 from rfl]
    omega
theorem getN_putL (n w : Nat) : getN (putL n w) = n % 2 ^ (8 * w) := by
  induction w with
  | zero => simp [putL, getN, Nat.mod_one]
  | succ w ih =>
    rw [putL_succ, getN_snoc, ih, putL_len, putB_nat, Nat.mul_add, Nat.pow_add, show 2 ^ (8 * 1) = 256 from rfl, Nat.mod_mul]
theorem putB_zero (n : Nat) : putB n 0 = UInt8.ofNat n := by simp [putB]
theorem putL_cons (n w : Nat) : putL n (w + 1) = UInt8.ofNat n :: putL (n / 256) w := by
  unfold putL
  rw [List.range_succ_eq_map, List.map_cons, List.map_map, putB_zero]
  congr 1
  apply List.map_congr_left
  intro i _
  simp only [Function.comp, putB, Nat.succ_eq_add_one, Nat.mul_add, Nat.pow_add, Nat.div_div_eq_div_mul]
  rw [Nat.mul_comm (2 ^ (8 * i))]
theorem putL_getN (l : List UInt8) : putL (getN l) l.length = l := by
  induction l with
  | nil => rfl
  | cons b l ih =>
    have hb := b.toNat_lt
    rw [List.length_cons, putL_cons, getN_cons, show (b.toNat + 256 * getN l) / 256 = getN l by omega, ih]
    congr 1
    apply UInt8.toNat_inj.mp
    rw [UInt8.toNat_ofNat']
    omega
theorem getN_or (l : List UInt8) (b : UInt8) (h : l.length < 8) : bits .or .u64 (getN l : Int) (IntKind.u64.wrap ((b.toNat : Int) * 2 ^ (8 * l.length))) = (getN (l ++ [b]) : Int) := by
  have h1 := getN_lt l
  have h2 := getN_lt (l ++ [b])
  have hb := b.toNat_lt
  have h3 : getN (l ++ [b]) < 2 ^ 64 := Nat.lt_of_lt_of_le h2 (Nat.pow_le_pow_right (by omega) (by simp; omega))
  have h4 := getN_snoc l b
  have h5 : getN l < 2 ^ 64 := by omega
  have h6 : 2 ^ (8 * l.length) * b.toNat < 2 ^ 64 := by omega
  have e1 : IntKind.u64.wrap ((b.toNat : Int) * 2 ^ (8 * l.length)) = ((2 ^ (8 * l.length) * b.toNat : Nat) : Int) := by
    have : (b.toNat : Int) * 2 ^ (8 * l.length) = ((2 ^ (8 * l.length) * b.toNat : Nat) : Int) := by push_cast; rw [Int.mul_comm]
    rw [this, IntKind.wrap_u64]; omega
  rw [e1]
  show IntKind.u64.wrap ((BitVec.ofInt 64 ((getN l : Nat) : Int) ||| BitVec.ofInt 64 ((2 ^ (8 * l.length) * b.toNat : Nat) : Int)).toNat : Int) = _
  rw [BitVec.ofInt_natCast, BitVec.ofInt_natCast, BitVec.toNat_or, BitVec.toNat_ofNat, BitVec.toNat_ofNat, Nat.mod_eq_of_lt h5, Nat.mod_eq_of_lt h6, Nat.or_comm, ← Nat.two_pow_add_eq_or_of_lt h1, Nat.add_comm, ← h4, IntKind.wrap_u64]
  omega
def putF (n : Nat) (wd : Int) : List UInt8 := if wd < 1 ∨ 8 < wd then [] else putL n wd.toNat
def cmpL (n : Nat) : List UInt8 := if n < 253 then putL n 1 else if n ≤ 65535 then 253 :: putL n 2 else if n ≤ 4294967295 then 254 :: putL n 4 else 255 :: putL n 8
/-- a number, what is behind it, an error's number -/
def getF (l : List UInt8) (wd : Int) : Nat × List UInt8 × Int := if wd < 1 ∨ 8 < wd then (0, [], 1) else if (l.length : Int) < wd then (0, [], 30) else (getN (l.take wd.toNat), l.drop wd.toNat, 0)
def wideL (b : UInt8) : Nat := if b = 253 then 2 else if b = 254 then 4 else 8
def readF (l : List UInt8) : Nat × List UInt8 × Int :=
  match l with
  | [] => (0, [], 30)
  | b :: t => if b.toNat < 253 then (b.toNat, t, 0) else if t.length < wideL b then (0, [], 30) else if (cmpL (getN (t.take (wideL b)))).length = wideL b + 1 then (getN (t.take (wideL b)), t.drop (wideL b), 0) else (0, [], 31)
def keyF (l : List UInt8) : List UInt8 × List UInt8 × Int := if l.length < 32 then (List.replicate 32 0, [], 30) else (l.take 32, l.drop 32, 0)
end Go.Proofs.Ytimhophelecmjaa
/- The document's own answers for codec: Put, Compact and the bytes of a key. -/
namespace Go.Proofs.Ytimhophelecmjaa
open Go.RowKit
theorem byte_info : (Try.prog.info? 5).map (fun i => (i.zero, i.size, i.bytes)) = some (some (.int .u8 0), 1, 1) := by kernel_rfl
theorem putB_val (n j : Nat) : (n : Int) / 2 ^ (8 * j) % 256 = ((putB n j).toNat : Int) := by
  rw [putB_nat, Int.natCast_emod, Int.natCast_ediv, Int.natCast_pow]; rfl
set_option maxRecDepth 20000 in
set_option maxHeartbeats 1000000 in
theorem refPut_any (n : Nat) (wd : Int) (w : World) :
    Calls Try.prog 18 #[.int .u64 n, .int .i64 wd] w fun e w' => e = .returned (.string ⟨(putF n wd).toArray⟩) ∧ Below w.heap.size w w' := by
  by_cases h1 : wd < 1
  · rw [show putF n wd = [] by simp [putF, h1]]
    go_enter Try.func18, Try.ntmps18
    go_wp2
    go_ret
    exact ⟨rfl, Below.refl _ _⟩
  by_cases h8 : 8 < wd
  · rw [show putF n wd = [] by simp [putF, h8]]
    go_enter Try.func18, Try.ntmps18
    go_wp2
    go_ret
    exact ⟨rfl, Below.refl _ _⟩
  obtain ⟨m, rfl⟩ : ∃ m : Nat, wd = m := ⟨wd.toNat, by omega⟩
  rw [show putF n (m : Int) = putL n m by simp [putF, h1, h8]]
  go_enter Try.func18, Try.ntmps18
  go_wp2_with fail
  go_loopw [5, 6] (fun v i wr => ∃ j : Nat, j ≤ m ∧ i = .int .i64 j ∧ wr.ownsRow w.heap.size 5 1 v j (Lib.byteCells (putL n j)) ∧ Below w.heap.size w wr)
    (fun _ i _ => m - (intOf i).toNat)
  case atStart =>
    refine ⟨0, by omega, rfl, ?_, (Below.refl _ _).alloc (Nat.le_refl _) _⟩
    have := World.ownsRow_lit (e := 5) (size := 1) (base := w.heap.size) w #[] 0 (by simp) (by unfold maxLen; omega) (by simp)
    simpa [Lib.byteCells, putL] using this
  case round =>
    obtain ⟨j, hj, rfl, hown, hb⟩ := hrel
    have HO := Lib.hid hown
    clear hown
    by_cases hlt : j < m
    · go_wp2_with (at_builtin; refine wpList_append1g rfl (.tmp 19) (.tmp 25) 59 rfl w.heap.size 5 _ 1 Try.underlying59 byte_info rfl (by omega) _ _ _ rfl (HO.out.alloc _) _ 1 (.int .u8 ((n : Int) / 2 ^ (8 * j) % 256)) rfl (Blk.new _ _ _) rfl (by omega) (by have := hb.size; simp; omega) ?_; intro v' w' o' b' _)
      go_roundw
      case rel =>
        refine ⟨j + 1, by omega, by go_num, ?_, (hb.alloc hb.size _).trans (grown_below b' (HO.out.alloc _) (by simp; have := hb.size; omega))⟩
        rw [putL_succ, show Lib.byteCells (putL n j ++ [putB n j]) = Lib.byteCells (putL n j) ++ [.int .u8 ((n : Int) / 2 ^ (8 * j) % 256)] by unfold Lib.byteCells; rw [List.map_append, putB_val]; rfl]
        exact o'
      case measure => simp [intOf]; omega
    · have hjm : j = m := by omega
      subst hjm
      have hconv := conv_own (w := wr) (base := w.heap.size) (v := u5) (l := putL n j) (by rw [putL_len]; exact HO.out)
      go_wp2
      go_ret
      exact ⟨rfl, hb⟩
theorem refCompact_any (n : Nat) (w : World) :
    Calls Try.prog 19 #[.int .u64 n] w fun e w' => e = .returned (.string ⟨(cmpL n).toArray⟩) ∧ Below w.heap.size w w' := by
  by_cases h1 : n < 253
  · have hd : decide ((n : Int) < 253) = true := by simp; omega
    go_enter Try.func19, Try.ntmps19
    go_wp2_with fail
    refine (refPut_any n 1 _).mono ?_
    rintro e w1 ⟨rfl, b1⟩
    rw [show putF n 1 = cmpL n by simp [putF, cmpL, h1]]
    go_wp2
    go_ret
    exact ⟨rfl, b1⟩
  have d1 : decide ((n : Int) < 253) = false := by simp; omega
  by_cases h2 : n ≤ 65535
  · have d2 : decide ((n : Int) ≤ 65535) = true := by simp; omega
    rw [show cmpL n = [253] ++ putF n 2 by simp [putF, cmpL, h1, h2]]
    go_enter Try.func19, Try.ntmps19
    go_wp2_with fail
    refine (refPut_any n 2 _).mono ?_
    rintro e w1 ⟨rfl, b1⟩
    have hadd : ∀ V, (Op.stringOp .add ⟨[253].toArray⟩ ⟨(putF n 2).toArray⟩).run Try.prog V = .ok (.string ⟨([253] ++ putF n 2).toArray⟩) V := fun V => run_string_add_lists V _ _ (by decide) (by rw [show putF n 2 = putL n 2 from rfl, putL_len]; decide)
    go_wp2
    go_ret
    exact ⟨rfl, b1⟩
  have d2 : decide ((n : Int) ≤ 65535) = false := by simp; omega
  by_cases h3 : n ≤ 4294967295
  · have d3 : decide ((n : Int) ≤ 4294967295) = true := by simp; omega
    rw [show cmpL n = [254] ++ putF n 4 by simp [putF, cmpL, h1, h2, h3]]
    go_enter Try.func19, Try.ntmps19
    go_wp2_with fail
    refine (refPut_any n 4 _).mono ?_
    rintro e w1 ⟨rfl, b1⟩
    have hadd : ∀ V, (Op.stringOp .add ⟨[254].toArray⟩ ⟨(putF n 4).toArray⟩).run Try.prog V = .ok (.string ⟨([254] ++ putF n 4).toArray⟩) V := fun V => run_string_add_lists V _ _ (by decide) (by rw [show putF n 4 = putL n 4 from rfl, putL_len]; decide)
    go_wp2
    go_ret
    exact ⟨rfl, b1⟩
  have d3 : decide ((n : Int) ≤ 4294967295) = false := by simp; omega
  rw [show cmpL n = [255] ++ putF n 8 by simp [putF, cmpL, h1, h2, h3]]
  go_enter Try.func19, Try.ntmps19
  go_wp2_with fail
  refine (refPut_any n 8 _).mono ?_
  rintro e w1 ⟨rfl, b1⟩
  have hadd : ∀ V, (Op.stringOp .add ⟨[255].toArray⟩ ⟨(putF n 8).toArray⟩).run Try.prog V = .ok (.string ⟨([255] ++ putF n 8).toArray⟩) V := fun V => run_string_add_lists V _ _ (by decide) (by rw [show putF n 8 = putL n 8 from rfl, putL_len]; decide)
  go_wp2
  go_ret
  exact ⟨rfl, b1⟩
end Go.Proofs.Ytimhophelecmjaa
/- The document's own answers for codec: Get, Read and Key. -/
namespace Go.Proofs.Ytimhophelecmjaa
open Go.RowKit
def getV (r : Nat × List UInt8 × Int) : Value := .tuple #[.int .u64 r.1, .string ⟨r.2.1.toArray⟩, .int .i64 r.2.2]
theorem ba_len (s : ByteArray) : s.data.toList.length = s.size := Array.length_toList
theorem ba_drop (s : ByteArray) (k : Nat) : s.extract k s.size = ⟨(s.data.toList.drop k).toArray⟩ := by
  apply ByteArray.ext
  rw [ByteArray.data_extract]
  apply Array.toList_inj.mp
  rw [Array.toList_extract, List.extract_eq_take_drop]
  rw [List.take_of_length_le (by rw [List.length_drop, ba_len]; omega)]
theorem ba_at (s : ByteArray) (j : Nat) (h : j < s.size) : s.data.toList[j]'(by rw [ba_len]; exact h) = s[j] := by
  rw [Array.getElem_toList]; rfl
theorem get_step (s : ByteArray) (j : Nat) (h : j < s.size) (h8 : j < 8) : bits .or .u64 (getN (s.data.toList.take j) : Int) (IntKind.u64.wrap ((s[j].toNat : Int) * 2 ^ (8 * j))) = (getN (s.data.toList.take (j + 1)) : Int) := by
  have hl : (s.data.toList.take j).length = j := by rw [List.length_take, ba_len]; omega
  have hj : j < s.data.toList.length := by rw [ba_len]; exact h
  rw [List.take_succ_eq_append_getElem hj, ← getN_or _ _ (by omega), hl, ba_at s j h]
end Go.Proofs.Ytimhophelecmjaa
/- codec's leaves: may, shape, and how many bits the greatest numbers have. -/
namespace Go.Proofs.Ytimhophelecmjaa
open Go.RowKit
def mayW (wd : Int) : Bool := decide (1 ≤ wd) && decide (wd ≤ 8)
/-- how many bytes a number has behind its mark -/
def wdN (n : Nat) : Nat := if n < 253 then 1 else if n ≤ 65535 then 2 else if n ≤ 4294967295 then 4 else 8
def mkN (n : Nat) : Nat := if n < 253 then 252 else if n ≤ 65535 then 253 else if n ≤ 4294967295 then 254 else 255
end Go.Proofs.Ytimhophelecmjaa
/- codec.Put and Compact. -/
namespace Go.Proofs.Ytimhophelecmjaa
open Go.RowKit
/-- the first k bytes of n, noughts behind -/
def putKb (n m k : Nat) : List UInt8 := tab m fun i => if i < k then putB n i else 0
theorem putKb_all (n m : Nat) : putKb n m m = putL n m := by
  unfold putKb putL
  rw [tab_congr m (fun i => if i < m then putB n i else 0) (putB n) (fun i hi => by rw [if_pos hi])]
  rfl
theorem made_u8 (n m : Nat) : madeCells #[Value.int .u8 0] m = bytesA (putKb n m 0) := by
  apply Array.ext_getElem?
  intro i
  by_cases hi : i < m
  · rw [bytesA_get _ _ (by unfold putKb; rw [tab_len]; exact hi), made_get _ _ _ hi]; unfold putKb; rw [tab_get]; rfl
  · simp [madeCells, bytesA, putKb, tab, hi]
theorem conv_blk {w : World} {g m : Nat} {t : TypeId} {l : List UInt8} (h : Blk w g t (bytesA l)) (hm : l.length = m) :
    (convert 59 9 (.slice (some ⟨g, 0, none⟩) m m)).run Try.prog w = .ok (.string ⟨l.toArray⟩) w := by
  subst hm
  refine run_convert_bytes_back (P := Try.prog) w 59 9 5 ⟨g, 0, none⟩ l.length l Try.underlying59 Try.underlying5 Try.underlying9 (fun j hj => ?_)
  rw [show (⟨g, 0, none⟩ : Addr).add j = ⟨g, j, none⟩ by unfold Addr.add; split <;> simp_all, h.cell, bytesA_get _ _ hj]
theorem cmpL_short (n : Nat) (h : n < 253) : cmpL n = putF n 1 := by simp [cmpL, putF, h]
theorem mk_byte (n : Nat) (h : ¬ n < 253) : cmpL n = putF (mkN n) 1 ++ putF n (wdN n) := by
  by_cases h2 : n ≤ 65535
  · simp [cmpL, mkN, wdN, h, h2, putF]; rfl
  by_cases h3 : n ≤ 4294967295
  · simp [cmpL, mkN, wdN, h, h2, h3, putF]; rfl
  · simp [cmpL, mkN, wdN, h, h2, h3, putF]; rfl
theorem wdN_one (n : Nat) (h : n < 253) : wdN n = 1 := by simp [wdN, h]
theorem wdN_more (n : Nat) (h : ¬ n < 253) : 1 < wdN n ∧ wdN n ≤ 8 := by unfold wdN; rw [if_neg h]; split <;> (try split) <;> omega
theorem putF_len (n m : Nat) (h1 : 1 ≤ m) (h8 : m ≤ 8) : (putF n m).length = m := by
  unfold putF; rw [if_neg (by omega), putL_len]; omega
end Go.Proofs.Ytimhophelecmjaa
/- codec.take at each of its four kinds: so many bytes as a number. -/
namespace Go.Proofs.Ytimhophelecmjaa
open Go.RowKit
theorem getN_or_u8 (l : List UInt8) (b : UInt8) (h : l.length < 1) : bits .or .u8 (getN l : Int) (IntKind.u8.wrap ((b.toNat : Int) * 2 ^ (8 * l.length))) = (getN (l ++ [b]) : Int) := by
  have h1 := getN_lt l
  have h2 := getN_lt (l ++ [b])
  have hb := b.toNat_lt
  have h3 : getN (l ++ [b]) < 2 ^ 8 := Nat.lt_of_lt_of_le h2 (Nat.pow_le_pow_right (by omega) (by simp; omega))
  have h4 := getN_snoc l b
  have h5 : getN l < 2 ^ 8 := by omega
  have h6 : 2 ^ (8 * l.length) * b.toNat < 2 ^ 8 := by omega
  have e1 : IntKind.u8.wrap ((b.toNat : Int) * 2 ^ (8 * l.length)) = ((2 ^ (8 * l.length) * b.toNat : Nat) : Int) := by
    have : (b.toNat : Int) * 2 ^ (8 * l.length) = ((2 ^ (8 * l.length) * b.toNat : Nat) : Int) := by push_cast; rw [Int.mul_comm]
    rw [this, IntKind.wrap_u8]; omega
  rw [e1]
  show IntKind.u8.wrap ((BitVec.ofInt 8 ((getN l : Nat) : Int) ||| BitVec.ofInt 8 ((2 ^ (8 * l.length) * b.toNat : Nat) : Int)).toNat : Int) = _
  rw [BitVec.ofInt_natCast, BitVec.ofInt_natCast, BitVec.toNat_or, BitVec.toNat_ofNat, BitVec.toNat_ofNat, Nat.mod_eq_of_lt h5, Nat.mod_eq_of_lt h6, Nat.or_comm, ← Nat.two_pow_add_eq_or_of_lt h1, Nat.add_comm, ← h4, IntKind.wrap_u8]
  omega
theorem step_u8 (s : ByteArray) (j : Nat) (h : j < s.size) (h8 : j < 1) : bits .or .u8 (getN (s.data.toList.take j) : Int) (IntKind.u8.wrap ((s[j].toNat : Int) * 2 ^ (8 * j))) = (getN (s.data.toList.take (j + 1)) : Int) := by
  have hl : (s.data.toList.take j).length = j := by rw [List.length_take, ba_len]; omega
  have hj : j < s.data.toList.length := by rw [ba_len]; exact h
  rw [List.take_succ_eq_append_getElem hj, ← getN_or_u8 _ _ (by omega), hl, ba_at s j h]
def takeV_u8 (r : Nat × List UInt8 × Int) : Value := .tuple #[.int .u8 r.1, .string ⟨r.2.1.toArray⟩, .int .i64 r.2.2]
theorem getN_or_u16 (l : List UInt8) (b : UInt8) (h : l.length < 2) : bits .or .u16 (getN l : Int) (IntKind.u16.wrap ((b.toNat : Int) * 2 ^ (8 * l.length))) = (getN (l ++ [b]) : Int) := by
  have h1 := getN_lt l
  have h2 := getN_lt (l ++ [b])
  have hb := b.toNat_lt
  have h3 : getN (l ++ [b]) < 2 ^ 16 := Nat.lt_of_lt_of_le h2 (Nat.pow_le_pow_right (by omega) (by simp; omega))
  have h4 := getN_snoc l b
  have h5 : getN l < 2 ^ 16 := by omega
  have h6 : 2 ^ (8 * l.length) * b.toNat < 2 ^ 16 := by omega
  have e1 : IntKind.u16.wrap ((b.toNat : Int) * 2 ^ (8 * l.length)) = ((2 ^ (8 * l.length) * b.toNat : Nat) : Int) := by
    have : (b.toNat : Int) * 2 ^ (8 * l.length) = ((2 ^ (8 * l.length) * b.toNat : Nat) : Int) := by push_cast; rw [Int.mul_comm]
    rw [this, IntKind.wrap_u16]; omega
  rw [e1]
  show IntKind.u16.wrap ((BitVec.ofInt 16 ((getN l : Nat) : Int) ||| BitVec.ofInt 16 ((2 ^ (8 * l.length) * b.toNat : Nat) : Int)).toNat : Int) = _
  rw [BitVec.ofInt_natCast, BitVec.ofInt_natCast, BitVec.toNat_or, BitVec.toNat_ofNat, BitVec.toNat_ofNat, Nat.mod_eq_of_lt h5, Nat.mod_eq_of_lt h6, Nat.or_comm, ← Nat.two_pow_add_eq_or_of_lt h1, Nat.add_comm, ← h4, IntKind.wrap_u16]
  omega
theorem step_u16 (s : ByteArray) (j : Nat) (h : j < s.size) (h8 : j < 2) : bits .or .u16 (getN (s.data.toList.take j) : Int) (IntKind.u16.wrap ((s[j].toNat : Int) * 2 ^ (8 * j))) = (getN (s.data.toList.take (j + 1)) : Int) := by
  have hl : (s.data.toList.take j).length = j := by rw [List.length_take, ba_len]; omega
  have hj : j < s.data.toList.length := by rw [ba_len]; exact h
  rw [List.take_succ_eq_append_getElem hj, ← getN_or_u16 _ _ (by omega), hl, ba_at s j h]
def takeV_u16 (r : Nat × List UInt8 × Int) : Value := .tuple #[.int .u16 r.1, .string ⟨r.2.1.toArray⟩, .int .i64 r.2.2]
theorem getN_or_u32 (l : List UInt8) (b : UInt8) (h : l.length < 4) : bits .or .u32 (getN l : Int) (IntKind.u32.wrap ((b.toNat : Int) * 2 ^ (8 * l.length))) = (getN (l ++ [b]) : Int) := by
  have h1 := getN_lt l
  have h2 := getN_lt (l ++ [b])
  have hb := b.toNat_lt
  have h3 : getN (l ++ [b]) < 2 ^ 32 := Nat.lt_of_lt_of_le h2 (Nat.pow_le_pow_right (by omega) (by simp; omega))
  have h4 := getN_snoc l b
  have h5 : getN l < 2 ^ 32 := by omega
  have h6 : 2 ^ (8 * l.length) * b.toNat < 2 ^ 32 := by omega
  have e1 : IntKind.u32.wrap ((b.toNat : Int) * 2 ^ (8 * l.length)) = ((2 ^ (8 * l.length) * b.toNat : Nat) : Int) := by
    have : (b.toNat : Int) * 2 ^ (8 * l.length) = ((2 ^ (8 * l.length) * b.toNat : Nat) : Int) := by push_cast; rw [Int.mul_comm]
    rw [this, IntKind.wrap_u32]; omega
  rw [e1]
  show IntKind.u32.wrap ((BitVec.ofInt 32 ((getN l : Nat) : Int) ||| BitVec.ofInt 32 ((2 ^ (8 * l.length) * b.toNat : Nat) : Int)).toNat : Int) = _
  rw [BitVec.ofInt_natCast, BitVec.ofInt_natCast, BitVec.toNat_or, BitVec.toNat_ofNat, BitVec.toNat_ofNat, Nat.mod_eq_of_lt h5, Nat.mod_eq_of_lt h6, Nat.or_comm, ← Nat.two_pow_add_eq_or_of_lt h1, Nat.add_comm, ← h4, IntKind.wrap_u32]
  omega
theorem step_u32 (s : ByteArray) (j : Nat) (h : j < s.size) (h8 : j < 4) : bits .or .u32 (getN (s.data.toList.take j) : Int) (IntKind.u32.wrap ((s[j].toNat : Int) * 2 ^ (8 * j))) = (getN (s.data.toList.take (j + 1)) : Int) := by
  have hl : (s.data.toList.take j).length = j := by rw [List.length_take, ba_len]; omega
  have hj : j < s.data.toList.length := by rw [ba_len]; exact h
  rw [List.take_succ_eq_append_getElem hj, ← getN_or_u32 _ _ (by omega), hl, ba_at s j h]
def takeV_u32 (r : Nat × List UInt8 × Int) : Value := .tuple #[.int .u32 r.1, .string ⟨r.2.1.toArray⟩, .int .i64 r.2.2]
theorem getN_or_u64 (l : List UInt8) (b : UInt8) (h : l.length < 8) : bits .or .u64 (getN l : Int) (IntKind.u64.wrap ((b.toNat : Int) * 2 ^ (8 * l.length))) = (getN (l ++ [b]) : Int) := getN_or l b h
theorem step_u64 (s : ByteArray) (j : Nat) (h : j < s.size) (h8 : j < 8) : bits .or .u64 (getN (s.data.toList.take j) : Int) (IntKind.u64.wrap ((s[j].toNat : Int) * 2 ^ (8 * j))) = (getN (s.data.toList.take (j + 1)) : Int) := by
  have hl : (s.data.toList.take j).length = j := by rw [List.length_take, ba_len]; omega
  have hj : j < s.data.toList.length := by rw [ba_len]; exact h
  rw [List.take_succ_eq_append_getElem hj, ← getN_or_u64 _ _ (by omega), hl, ba_at s j h]
def takeV_u64 (r : Nat × List UInt8 × Int) : Value := .tuple #[.int .u64 r.1, .string ⟨r.2.1.toArray⟩, .int .i64 r.2.2]
end Go.Proofs.Ytimhophelecmjaa
/- The document's own answers for codec: Read. -/
namespace Go.Proofs.Ytimhophelecmjaa
open Go.RowKit
theorem getV_mk (n : Nat) (l : List UInt8) (e : Int) : getV (n, l, e) = .tuple #[.int .u64 n, .string ⟨l.toArray⟩, .int .i64 e] := rfl
theorem ba_tail (s : ByteArray) (b : UInt8) (t : List UInt8) (hl : s.data.toList = b :: t) : s.extract 1 s.size = ⟨t.toArray⟩ := by
  rw [ba_drop, hl]; rfl
theorem ba_head (s : ByteArray) (b : UInt8) (t : List UInt8) (hl : s.data.toList = b :: t) (h : 0 < s.size) : s[0] = b := by
  rw [← ba_at s 0 h]; simp [hl]
end Go.Proofs.Ytimhophelecmjaa
/- codec.Get, marked at its three kinds, and Read. -/
namespace Go.Proofs.Ytimhophelecmjaa
open Go.RowKit
/-- the number behind a mark -/
def markF (l : List UInt8) (m : Nat) : Nat × List UInt8 × Int := if l.length < m then (0, [], 30) else if wdN (getN (l.take m)) < m then (0, [], 31) else (getN (l.take m), l.drop m, 0)
theorem cmpL_len (n : Nat) : (cmpL n).length = if n < 253 then 1 else wdN n + 1 := by
  unfold cmpL wdN
  by_cases h1 : n < 253
  · simp [h1, putL_len]
  by_cases h2 : n ≤ 65535
  · simp [h1, h2, putL_len]
  by_cases h3 : n ≤ 4294967295
  · simp [h1, h2, h3, putL_len]
  · simp [h1, h2, h3, putL_len]
theorem wide_iff (n m : Nat) (hm : m = 2 ∨ m = 4 ∨ m = 8) (hn : n < 2 ^ (8 * m)) : (cmpL n).length = m + 1 ↔ ¬ wdN n < m := by
  rw [cmpL_len]
  unfold wdN
  rcases hm with rfl | rfl | rfl
  · by_cases h1 : n < 253
    · simp [h1]
    · have h2 : n ≤ 65535 := by omega
      simp [h1, h2]
  · by_cases h1 : n < 253
    · simp [h1]
    by_cases h2 : n ≤ 65535
    · simp [h1, h2]
    · have h3 : n ≤ 4294967295 := by omega
      simp [h1, h2, h3]
  · by_cases h1 : n < 253
    · simp [h1]
    by_cases h2 : n ≤ 65535
    · simp [h1, h2]
    by_cases h3 : n ≤ 4294967295
    · simp [h1, h2, h3]
    · simp [h1, h2, h3]
theorem take_lt (l : List UInt8) (m : Nat) : getN (l.take m) < 2 ^ (8 * m) :=
  Nat.lt_of_lt_of_le (getN_lt _) (Nat.pow_le_pow_right (by omega) (by rw [List.length_take]; omega))
theorem readF_mark (b : UInt8) (t : List UInt8) (hb : ¬ b.toNat < 253) : readF (b :: t) = markF t (wideL b) := by
  have hm : wideL b = 2 ∨ wideL b = 4 ∨ wideL b = 8 := by unfold wideL; split <;> (try split) <;> simp
  simp only [readF, if_neg hb]
  unfold markF
  by_cases h : t.length < wideL b
  · rw [if_pos h, if_pos h]
  rw [if_neg h, if_neg h]
  have hi := wide_iff (getN (t.take (wideL b))) (wideL b) hm (take_lt _ _)
  by_cases h2 : wdN (getN (t.take (wideL b))) < wideL b
  · rw [if_pos h2, if_neg (fun h3 => hi.1 h3 h2)]
  · rw [if_neg h2, if_pos (hi.2 h2)]
theorem get_one (b : UInt8) (t : List UInt8) : getF (b :: t) (1 : Nat) = (b.toNat, t, 0) := by
  unfold getF; rw [if_neg (by omega), if_neg (by rw [List.length_cons]; omega)]; simp [getN]
end Go.Proofs.Ytimhophelecmjaa
/- codec.Key and Bytes. -/
namespace Go.Proofs.Ytimhophelecmjaa
open Go.RowKit
def keyV (r : List UInt8 × List UInt8 × Int) : Value := .tuple #[.agg (bytesA r.1), .string ⟨r.2.1.toArray⟩, .int .i64 r.2.2]
theorem lit32 : (#[Value.int .u8 0, Value.int .u8 0, Value.int .u8 0, Value.int .u8 0, Value.int .u8 0, Value.int .u8 0, Value.int .u8 0, Value.int .u8 0, Value.int .u8 0, Value.int .u8 0, Value.int .u8 0, Value.int .u8 0, Value.int .u8 0, Value.int .u8 0, Value.int .u8 0, Value.int .u8 0, Value.int .u8 0, Value.int .u8 0, Value.int .u8 0, Value.int .u8 0, Value.int .u8 0, Value.int .u8 0, Value.int .u8 0, Value.int .u8 0, Value.int .u8 0, Value.int .u8 0, Value.int .u8 0, Value.int .u8 0, Value.int .u8 0, Value.int .u8 0, Value.int .u8 0, Value.int .u8 0] : Array Value) = bytesA (List.replicate 32 0) := by kernel_rfl
theorem sz32 (l : List UInt8) (h : l.length = 32) : (Try.prog.info? 24).map (·.size) = some (bytesA l).size := by rw [bytesA_size, h]; kernel_rfl
theorem rep32 : (List.replicate 32 (0 : UInt8)).length = 32 := by simp
end Go.Proofs.Ytimhophelecmjaa
/- The document's own answers for codec: Key. -/
namespace Go.Proofs.Ytimhophelecmjaa
open Go.RowKit
/-- the first k bytes of l, noughts behind -/
def headK (l : List UInt8) (k : Nat) : List UInt8 := tab 32 fun i => if i < k then l.getD i 0 else 0
theorem headK_all (l : List UInt8) (h : 32 ≤ l.length) : headK l 32 = l.take 32 := by
  unfold headK
  apply List.ext_getElem
  · rw [List.length_take, tab_len]; omega
  · intro i h1 h2
    have hi : i < 32 := by rw [tab_len] at h1; exact h1
    rw [tab_get, List.getElem_take]
    show (if i < 32 then l.getD i 0 else 0) = _
    rw [if_pos hi, List.getD_eq_getElem?_getD, List.getElem?_eq_getElem (by omega)]
    rfl
theorem headK_zero (l : List UInt8) : headK l 0 = List.replicate 32 0 := by
  unfold headK
  apply List.ext_getElem
  · rw [tab_len]; simp
  · intro i h1 h2
    rw [tab_get, List.getElem_replicate]
    exact if_neg (by omega)
theorem headK_set (l : List UInt8) (k : Nat) (h : k < l.length) : (headK l k).set k l[k] = headK l (k + 1) := by
  unfold headK
  refine tab_set 32 _ _ k _ (fun i hi => ?_)
  show (if i < k + 1 then l.getD i 0 else 0) = if i = k then l[k] else (if i < k then l.getD i 0 else 0)
  by_cases e : i = k
  · subst e
    rw [if_pos (by omega), if_pos rfl, List.getD_eq_getElem?_getD, List.getElem?_eq_getElem h]; rfl
  · rw [if_neg e]
    by_cases l : i < k
    · rw [if_pos l, if_pos (by omega)]
    · rw [if_neg l, if_neg (by omega)]
theorem headK_len (l : List UInt8) (k : Nat) : (headK l k).length = 32 := tab_len _ _
end Go.Proofs.Ytimhophelecmjaa
/- The document's own answers for codec: the bytes of a key. -/
namespace Go.Proofs.Ytimhophelecmjaa
open Go.RowKit
theorem byte_info5 : (Try.prog.info? 5).map (fun i => (i.zero, i.size, i.bytes)) = some (some (.int .u8 0), 1, 1) := by kernel_rfl
set_option maxRecDepth 20000 in
set_option maxHeartbeats 1000000 in
theorem crefBytes_any (l : List UInt8) (hl : l.length = 32) (w : World) :
    Calls Try.prog 20 #[.agg (bytesA l)] w fun e w' => e = .returned (.string ⟨l.toArray⟩) ∧ Below w.heap.size w w' := by
  have HL := Lib.hid hl
  clear hl
  go_enter Try.func20, Try.ntmps20
  go_wp2_with fail
  go_loopw [3, 4] (fun v i wr => ∃ j : Nat, j ≤ 32 ∧ i = .int .i64 j ∧ wr.ownsRow (w.heap.size + 1) 5 1 v j (Lib.byteCells (l.take j)) ∧ Blk wr w.heap.size 24 (bytesA l) ∧ Below w.heap.size w wr ∧ w.heap.size + 1 ≤ wr.heap.size)
    (fun _ i _ => 32 - (intOf i).toNat)
  case atStart =>
    refine ⟨0, by omega, rfl, ?_, (Blk.new _ _ _).alloc _, ((Below.refl _ _).alloc (Nat.le_refl _) _).alloc (by simp) _, by simp⟩
    have := World.ownsRow_lit (e := 5) (size := 1) (base := w.heap.size + 1) (w.alloc (.cells (bytesA l) 24)) #[] 0 (by simp) (by unfold maxLen; omega) (by simp)
    simpa [Lib.byteCells] using this
  case round =>
    obtain ⟨j, hj, rfl, hown, hk, hb, hs⟩ := hrel
    have HO := Lib.hid hown
    have HK := Lib.hid hk
    by_cases hlt : j < 32
    · have hlj : j < l.length := by rw [HL.out]; exact hlt
      have hc : wr.cell? ⟨w.heap.size, j, none⟩ = _ := (hk.cell _).trans (bytesA_get l j hlj)
      clear hown hk
      go_wp2_with (at_builtin; refine wpList_append1 rfl (.tmp 10) (.tmp 14) 59 rfl (w.heap.size + 1) 5 _ 1 Try.underlying59 byte_info5 rfl (by omega) _ _ _ rfl (HO.out.alloc _) _ 1 (.int .u8 (l[j].toNat : Int)) rfl (Blk.new _ _ _) rfl (by omega) (by simp; omega) ?_; intro v' w' o' b')
      go_roundw
      case rel =>
        refine ⟨j + 1, by omega, by go_num, ?_, below_blk b' (HK.out.alloc _) (by omega), (hb.alloc hb.size _).trans (b'.mono (by omega)), by have := b'.size; simp at this; omega⟩
        rw [show Lib.byteCells (l.take (j + 1)) = Lib.byteCells (l.take j) ++ [.int .u8 (l[j].toNat : Int)] by rw [List.take_succ_eq_append_getElem hlj]; unfold Lib.byteCells; rw [List.map_append]; rfl]
        exact o'
      case measure => simp [intOf]; omega
    · have hj32 : j = 32 := by omega
      subst hj32
      have hconv := conv_own (w := wr) (base := w.heap.size + 1) (v := u3) (l := l) (by have := HO.out; rw [List.take_of_length_le (by rw [HL.out]; omega)] at this; rw [HL.out]; exact this)
      clear hown hk HO HK
      go_wp2
      go_ret
      exact ⟨rfl, hb⟩
end Go.Proofs.Ytimhophelecmjaa
/- The anchors of codec's statements, and what they lean on, plain. -/
namespace Go.Proofs.Ytimhophelecmjaa
open Go.RowKit
theorem getF_put (n w : Nat) (rest : List UInt8) (h1 : 1 ≤ w) (h8 : w ≤ 8) : getF (putL n w ++ rest) w = (n % 2 ^ (8 * w), rest, 0) := by
  have hl := putL_len n w
  unfold getF
  rw [if_neg (by omega), if_neg (by rw [List.length_append]; omega), Int.toNat_natCast, List.take_append_of_le_length (by omega), List.take_of_length_le (by omega), List.drop_append_of_le_length (by omega), List.drop_of_length_le (by omega), getN_putL]
  rfl
theorem markF_put (n m : Nat) (rest : List UInt8) (hn : n < 2 ^ (8 * m)) : markF (putL n m ++ rest) m = if wdN n < m then (0, [], 31) else (n, rest, 0) := by
  have hl := putL_len n m
  unfold markF
  rw [if_neg (by rw [List.length_append]; omega), List.take_append_of_le_length (by omega), List.take_of_length_le (by omega), List.drop_append_of_le_length (by omega), List.drop_of_length_le (by omega), getN_putL, Nat.mod_eq_of_lt hn]
  rfl
theorem readF_cmp (n : Nat) (rest : List UInt8) (hn : n < 2 ^ 64) : readF (cmpL n ++ rest) = (n, rest, 0) := by
  by_cases h1 : n < 253
  · rw [show cmpL n = [UInt8.ofNat n] by simp [cmpL, h1, putL, putB]]
    have hb : (UInt8.ofNat n).toNat = n := by rw [UInt8.toNat_ofNat']; omega
    simp [readF, hb, h1]
  by_cases h2 : n ≤ 65535
  · rw [show cmpL n = 253 :: putL n 2 by simp [cmpL, h1, h2], List.cons_append, readF_mark 253 _ (by decide), show wideL 253 = 2 from rfl, markF_put n 2 rest (by omega), if_neg (by simp [wdN, h1, h2])]
  by_cases h3 : n ≤ 4294967295
  · rw [show cmpL n = 254 :: putL n 4 by simp [cmpL, h1, h2, h3], List.cons_append, readF_mark 254 _ (by decide), show wideL 254 = 4 from rfl, markF_put n 4 rest (by omega), if_neg (by simp [wdN, h1, h2, h3])]
  rw [show cmpL n = 255 :: putL n 8 by simp [cmpL, h1, h2, h3], List.cons_append, readF_mark 255 _ (by decide), show wideL 255 = 8 from rfl, markF_put n 8 rest (by omega), if_neg (by simp [wdN, h1, h2, h3])]
/-- what the marks of a number are -/
theorem cmpL_wide (b : UInt8) (n : Nat) (hb : ¬ b.toNat < 253) (hn : n < 2 ^ (8 * wideL b)) (hw : ¬ wdN n < wideL b) : cmpL n = b :: putL n (wideL b) := by
  have hb2 := b.toNat_lt
  have h3 : b = 253 ∨ b = 254 ∨ b = 255 := by
    have : b.toNat = 253 ∨ b.toNat = 254 ∨ b.toNat = 255 := by omega
    rcases this with e | e | e
    · exact .inl (UInt8.toNat_inj.mp e)
    · exact .inr (.inl (UInt8.toNat_inj.mp e))
    · exact .inr (.inr (UInt8.toNat_inj.mp e))
  unfold wdN at hw
  rcases h3 with rfl | rfl | rfl
  · rw [show wideL 253 = 2 from rfl] at hn hw ⊢
    by_cases h1 : n < 253
    · simp [h1] at hw
    simp [cmpL, h1, show n ≤ 65535 by omega]
  · rw [show wideL 254 = 4 from rfl] at hn hw ⊢
    by_cases h1 : n < 253
    · simp [h1] at hw
    by_cases h2 : n ≤ 65535
    · simp [h1, h2] at hw
    simp [cmpL, h1, h2, show n ≤ 4294967295 by omega]
  · rw [show wideL 255 = 8 from rfl] at hn hw ⊢
    by_cases h1 : n < 253
    · simp [h1] at hw
    by_cases h2 : n ≤ 65535
    · simp [h1, h2] at hw
    by_cases h4 : n ≤ 4294967295
    · simp [h1, h2, h4] at hw
    simp [cmpL, h1, h2, h4]
/-- what is read, or which error -/
theorem readF_cases (l : List UInt8) : (∃ n r, readF l = (n, r, 0) ∧ cmpL n ++ r = l ∧ n < 2 ^ 64) ∨ readF l = (0, [], 30) ∨ readF l = (0, [], 31) := by
  cases l with
  | nil => exact .inr (.inl rfl)
  | cons b t =>
    by_cases hb : b.toNat < 253
    · refine .inl ⟨b.toNat, t, by simp [readF, hb], ?_, by omega⟩
      simp [cmpL, hb, putL, putB]
    · rw [readF_mark b t hb]
      unfold markF
      by_cases h1 : t.length < wideL b
      · exact .inr (.inl (by rw [if_pos h1]))
      by_cases h2 : wdN (getN (t.take (wideL b))) < wideL b
      · exact .inr (.inr (by rw [if_neg h1, if_pos h2]))
      refine .inl ⟨getN (t.take (wideL b)), t.drop (wideL b), by rw [if_neg h1, if_neg h2], ?_, ?_⟩
      · rw [cmpL_wide b _ hb (take_lt _ _) h2]
        have hl : (t.take (wideL b)).length = wideL b := by rw [List.length_take]; omega
        have := putL_getN (t.take (wideL b))
        rw [hl] at this
        rw [this, List.cons_append, List.take_append_drop]
      · refine Nat.lt_of_lt_of_le (take_lt t (wideL b)) (Nat.pow_le_pow_right (by omega) ?_)
        unfold wideL; split <;> (try split) <;> omega
theorem readF_cut (n i : Nat) (hi : i < (cmpL n).length) : readF ((cmpL n).take i) = (0, [], 30) := by
  cases i with
  | zero => rfl
  | succ i =>
    by_cases h1 : n < 253
    · rw [cmpL_len, if_pos h1] at hi; omega
    have key : ∀ (b : UInt8) (m : Nat), ¬ b.toNat < 253 → wideL b = m → cmpL n = b :: putL n m → readF ((cmpL n).take (i + 1)) = (0, [], 30) := by
      intro b m hb hm hc
      rw [hc] at hi ⊢
      rw [List.length_cons, putL_len] at hi
      rw [List.take_succ_cons, readF_mark b _ hb, hm]
      unfold markF
      rw [if_pos (by rw [List.length_take, putL_len]; omega)]
    by_cases h2 : n ≤ 65535
    · exact key 253 2 (by decide) rfl (by simp [cmpL, h1, h2])
    by_cases h3 : n ≤ 4294967295
    · exact key 254 4 (by decide) rfl (by simp [cmpL, h1, h2, h3])
    · exact key 255 8 (by decide) rfl (by simp [cmpL, h1, h2, h3])
theorem readF_long (b : UInt8) (m n : Nat) (rest : List UInt8) (hb : ¬ b.toNat < 253) (hm : wideL b = m) (hn : n < 2 ^ (8 * m)) (hw : wdN n < m) : readF (b :: putL n m ++ rest) = (0, [], 31) := by
  rw [List.cons_append, readF_mark b _ hb, hm, markF_put n m rest hn, if_pos hw]
theorem keyF_put (l rest : List UInt8) (hl : l.length = 32) : keyF (l ++ rest) = (l, rest, 0) := by
  unfold keyF
  rw [if_neg (by rw [List.length_append]; omega), List.take_append_of_le_length (by omega), List.take_of_length_le (by omega), List.drop_append_of_le_length (by omega), List.drop_of_length_le (by omega)]
  rfl
theorem putL_parts (n w : Nat) (h : w ≤ 8) : putL n w ++ putL (n / 2 ^ (8 * w)) (8 - w) = putL n 8 := by
  apply List.ext_getElem
  · rw [List.length_append, putL_len, putL_len, putL_len]; omega
  · intro i h1 h2
    rw [putL_len] at h2
    rw [List.getElem_append]
    split
    · simp [putL]
    · rename_i h3
      rw [putL_len] at h3
      simp only [putL, putB, List.getElem_map, List.getElem_range, List.length_map, List.length_range, Nat.div_div_eq_div_mul, ← Nat.pow_add]
      congr 4
      omega
theorem cmpL_mono (a b : Nat) (h : a ≤ b) : (cmpL a).length ≤ (cmpL b).length := by
  rw [cmpL_len, cmpL_len]
  unfold wdN
  by_cases h1 : b < 253
  · simp [h1, show a < 253 by omega]
  by_cases h2 : b ≤ 65535
  · simp [h1, h2]; split <;> (try split) <;> (try split) <;> omega
  by_cases h3 : b ≤ 4294967295
  · simp [h1, h2, h3]; split <;> (try split) <;> (try split) <;> omega
  · simp [h1, h2, h3]; split <;> (try split) <;> (try split) <;> omega
end Go.Proofs.Ytimhophelecmjaa
