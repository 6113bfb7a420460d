/- codec.Get, marked at its three kinds, and Read. -/
import Derived.Test.YtgcopgnkfokphaaCodB
import Derived.Test.YtgcopgnkfokphaaCodC
import Derived.Test.YtgcopgnkfokphaaCodT
namespace Go.Proofs.Ytgcopgnkfokphaa
open Go.RowKit
theorem get_any (s : ByteArray) (hs : s.size ≤ 1000000) (wd : Int) (w : World) :
    Calls Try.prog 61 #[.string s, .int .i64 wd] w fun e w' => e = .returned (getV (getF s.data.toList wd)) ∧ Below w.heap.size w w' := by
  by_cases hw : wd < 1 ∨ 8 < wd
  · rw [show getF s.data.toList wd = (0, [], 1) by simp [getF, hw]]
    have hmw : mayW wd = false := by simp [mayW]; omega
    go_enter Try.func61, Try.ntmps61
    go_wp2_with fail
    refine (may_any wd _).mono ?_
    rintro e w1 ⟨rfl, rfl⟩
    rw [hmw]
    go_wp2
    go_ret3
    exact ⟨rfl, Below.refl _ _⟩
  have hmw : mayW wd = true := by simp [mayW]; omega
  obtain ⟨m, rfl⟩ : ∃ m : Nat, wd = m := ⟨wd.toNat, by omega⟩
  have HT := Lib.hid (take_u64_any s hs m (by omega) (by omega))
  obtain ⟨r, hr⟩ : ∃ r, getF s.data.toList m = r := ⟨_, rfl⟩
  rw [hr] at HT
  rw [hr]
  clear hr hw
  go_enter Try.func61, Try.ntmps61
  go_wp2_with fail
  refine (may_any m _).mono ?_
  rintro e w1 ⟨rfl, rfl⟩
  rw [hmw]
  go_wp2_with fail
  refine (HT.out _).mono ?_
  rintro e w2 ⟨rfl, b2⟩
  unfold takeV_u64
  go_wp2
  go_ret3
  exact ⟨rfl, b2⟩
/-- the number behind a mark -/
def markF (l : List UInt8) (m : Nat) : Nat × List UInt8 × Int := if l.length < m then (0, [], 30) else if wdN (getN (l.take m)) < m then (0, [], 31) else (getN (l.take m), l.drop m, 0)
theorem cmpL_len (n : Nat) : (cmpL n).length = if n < 253 then 1 else wdN n + 1 := by
  unfold cmpL wdN
  by_cases h1 : n < 253
  · simp [h1, putL_len]
  by_cases h2 : n ≤ 65535
  · simp [h1, h2, putL_len]
  by_cases h3 : n ≤ 4294967295
  · simp [h1, h2, h3, putL_len]
  · simp [h1, h2, h3, putL_len]
theorem wide_iff (n m : Nat) (hm : m = 2 ∨ m = 4 ∨ m = 8) (hn : n < 2 ^ (8 * m)) : (cmpL n).length = m + 1 ↔ ¬ wdN n < m := by
  rw [cmpL_len]
  unfold wdN
  rcases hm with rfl | rfl | rfl
  · by_cases h1 : n < 253
    · simp [h1]
    · have h2 : n ≤ 65535 := by omega
      simp [h1, h2]
  · by_cases h1 : n < 253
    · simp [h1]
    by_cases h2 : n ≤ 65535
    · simp [h1, h2]
    · have h3 : n ≤ 4294967295 := by omega
      simp [h1, h2, h3]
  · by_cases h1 : n < 253
    · simp [h1]
    by_cases h2 : n ≤ 65535
    · simp [h1, h2]
    by_cases h3 : n ≤ 4294967295
    · simp [h1, h2, h3]
    · simp [h1, h2, h3]
theorem take_lt (l : List UInt8) (m : Nat) : getN (l.take m) < 2 ^ (8 * m) :=
  Nat.lt_of_lt_of_le (getN_lt _) (Nat.pow_le_pow_right (by omega) (by rw [List.length_take]; omega))
theorem readF_mark (b : UInt8) (t : List UInt8) (hb : ¬ b.toNat < 253) : readF (b :: t) = markF t (wideL b) := by
  have hm : wideL b = 2 ∨ wideL b = 4 ∨ wideL b = 8 := by unfold wideL; split <;> (try split) <;> simp
  simp only [readF, if_neg hb]
  unfold markF
  by_cases h : t.length < wideL b
  · rw [if_pos h, if_pos h]
  rw [if_neg h, if_neg h]
  have hi := wide_iff (getN (t.take (wideL b))) (wideL b) hm (take_lt _ _)
  by_cases h2 : wdN (getN (t.take (wideL b))) < wideL b
  · rw [if_pos h2, if_neg (fun h3 => hi.1 h3 h2)]
  · rw [if_neg h2, if_pos (hi.2 h2)]
set_option maxRecDepth 20000 in
theorem marked_u16_any (s : ByteArray) (hs : s.size ≤ 1000000) (w : World) :
    Calls Try.prog 63 #[.string s] w fun e w' => e = .returned (getV (markF s.data.toList 2)) ∧ Below w.heap.size w w' := by
  have HT := Lib.hid (take_u16_any s hs 2 (by omega) (by omega))
  have hlt : getN (s.data.toList.take 2) < 65536 := take_lt s.data.toList 2
  by_cases hsh : s.data.toList.length < 2
  · have hg : getF s.data.toList (2 : Nat) = (0, [], 30) := by unfold getF; rw [if_neg (by omega), if_pos (by omega)]
    rw [show markF s.data.toList 2 = (0, [], 30) by unfold markF; rw [if_pos hsh]]
    clear hlt hsh
    go_enter Try.func63, Try.ntmps63
    go_wp2_with fail
    refine (len16 _).mono ?_
    rintro e w0 ⟨rfl, rfl⟩
    go_wp2_with fail
    refine (HT.out _).mono ?_
    rintro e w1 ⟨rfl, b1⟩
    rw [hg]
    unfold takeV_u16
    go_wp2_with fail
    refine (shape_any 0 _).mono ?_
    rintro e w2 ⟨rfl, rfl⟩
    go_wp2
    go_ret3
    exact ⟨rfl, b1⟩
  have hg : getF s.data.toList (2 : Nat) = (getN (s.data.toList.take 2), s.data.toList.drop 2, 0) := by unfold getF; rw [if_neg (by omega), if_neg (by omega)]; rfl
  have hcv : IntKind.u64.wrap (getN (s.data.toList.take 2) : Int) = (getN (s.data.toList.take 2) : Int) := by rw [IntKind.wrap_u64]; omega
  by_cases hw : wdN (getN (s.data.toList.take 2)) < 2
  · rw [show markF s.data.toList 2 = (0, [], 31) by unfold markF; rw [if_neg hsh, if_pos hw]]
    obtain ⟨n, hn⟩ : ∃ n, getN (s.data.toList.take 2) = n := ⟨_, rfl⟩
    rw [hn] at hw hlt hg hcv
    clear hn hsh
    go_enter Try.func63, Try.ntmps63
    go_wp2_with fail
    refine (len16 _).mono ?_
    rintro e w0 ⟨rfl, rfl⟩
    go_wp2_with fail
    refine (HT.out _).mono ?_
    rintro e w1 ⟨rfl, b1⟩
    rw [hg]
    unfold takeV_u16
    go_wp2_with fail
    refine (shape_any n _).mono ?_
    rintro e w2 ⟨rfl, rfl⟩
    go_wp2
    go_ret3
    exact ⟨rfl, b1⟩
  · rw [show markF s.data.toList 2 = (getN (s.data.toList.take 2), s.data.toList.drop 2, 0) by unfold markF; rw [if_neg hsh, if_neg hw]]
    obtain ⟨n, hn⟩ : ∃ n, getN (s.data.toList.take 2) = n := ⟨_, rfl⟩
    obtain ⟨d, hd⟩ : ∃ d, s.data.toList.drop 2 = d := ⟨_, rfl⟩
    rw [hn] at hw hlt hg hcv
    rw [hd] at hg
    rw [hn, hd]
    clear hn hsh hd
    go_enter Try.func63, Try.ntmps63
    go_wp2_with fail
    refine (len16 _).mono ?_
    rintro e w0 ⟨rfl, rfl⟩
    go_wp2_with fail
    refine (HT.out _).mono ?_
    rintro e w1 ⟨rfl, b1⟩
    rw [hg]
    unfold takeV_u16
    go_wp2_with fail
    refine (shape_any n _).mono ?_
    rintro e w2 ⟨rfl, rfl⟩
    go_wp2
    go_ret3
    exact ⟨rfl, b1⟩
set_option maxRecDepth 20000 in
theorem marked_u32_any (s : ByteArray) (hs : s.size ≤ 1000000) (w : World) :
    Calls Try.prog 64 #[.string s] w fun e w' => e = .returned (getV (markF s.data.toList 4)) ∧ Below w.heap.size w w' := by
  have HT := Lib.hid (take_u32_any s hs 4 (by omega) (by omega))
  have hlt : getN (s.data.toList.take 4) < 4294967296 := take_lt s.data.toList 4
  by_cases hsh : s.data.toList.length < 4
  · have hg : getF s.data.toList (4 : Nat) = (0, [], 30) := by unfold getF; rw [if_neg (by omega), if_pos (by omega)]
    rw [show markF s.data.toList 4 = (0, [], 30) by unfold markF; rw [if_pos hsh]]
    clear hlt hsh
    go_enter Try.func64, Try.ntmps64
    go_wp2_with fail
    refine (len32 _).mono ?_
    rintro e w0 ⟨rfl, rfl⟩
    go_wp2_with fail
    refine (HT.out _).mono ?_
    rintro e w1 ⟨rfl, b1⟩
    rw [hg]
    unfold takeV_u32
    go_wp2_with fail
    refine (shape_any 0 _).mono ?_
    rintro e w2 ⟨rfl, rfl⟩
    go_wp2
    go_ret3
    exact ⟨rfl, b1⟩
  have hg : getF s.data.toList (4 : Nat) = (getN (s.data.toList.take 4), s.data.toList.drop 4, 0) := by unfold getF; rw [if_neg (by omega), if_neg (by omega)]; rfl
  have hcv : IntKind.u64.wrap (getN (s.data.toList.take 4) : Int) = (getN (s.data.toList.take 4) : Int) := by rw [IntKind.wrap_u64]; omega
  by_cases hw : wdN (getN (s.data.toList.take 4)) < 4
  · rw [show markF s.data.toList 4 = (0, [], 31) by unfold markF; rw [if_neg hsh, if_pos hw]]
    obtain ⟨n, hn⟩ : ∃ n, getN (s.data.toList.take 4) = n := ⟨_, rfl⟩
    rw [hn] at hw hlt hg hcv
    clear hn hsh
    go_enter Try.func64, Try.ntmps64
    go_wp2_with fail
    refine (len32 _).mono ?_
    rintro e w0 ⟨rfl, rfl⟩
    go_wp2_with fail
    refine (HT.out _).mono ?_
    rintro e w1 ⟨rfl, b1⟩
    rw [hg]
    unfold takeV_u32
    go_wp2_with fail
    refine (shape_any n _).mono ?_
    rintro e w2 ⟨rfl, rfl⟩
    go_wp2
    go_ret3
    exact ⟨rfl, b1⟩
  · rw [show markF s.data.toList 4 = (getN (s.data.toList.take 4), s.data.toList.drop 4, 0) by unfold markF; rw [if_neg hsh, if_neg hw]]
    obtain ⟨n, hn⟩ : ∃ n, getN (s.data.toList.take 4) = n := ⟨_, rfl⟩
    obtain ⟨d, hd⟩ : ∃ d, s.data.toList.drop 4 = d := ⟨_, rfl⟩
    rw [hn] at hw hlt hg hcv
    rw [hd] at hg
    rw [hn, hd]
    clear hn hsh hd
    go_enter Try.func64, Try.ntmps64
    go_wp2_with fail
    refine (len32 _).mono ?_
    rintro e w0 ⟨rfl, rfl⟩
    go_wp2_with fail
    refine (HT.out _).mono ?_
    rintro e w1 ⟨rfl, b1⟩
    rw [hg]
    unfold takeV_u32
    go_wp2_with fail
    refine (shape_any n _).mono ?_
    rintro e w2 ⟨rfl, rfl⟩
    go_wp2
    go_ret3
    exact ⟨rfl, b1⟩
set_option maxRecDepth 20000 in
theorem marked_u64_any (s : ByteArray) (hs : s.size ≤ 1000000) (w : World) :
    Calls Try.prog 65 #[.string s] w fun e w' => e = .returned (getV (markF s.data.toList 8)) ∧ Below w.heap.size w w' := by
  have HT := Lib.hid (take_u64_any s hs 8 (by omega) (by omega))
  have hlt : getN (s.data.toList.take 8) < 18446744073709551616 := take_lt s.data.toList 8
  by_cases hsh : s.data.toList.length < 8
  · have hg : getF s.data.toList (8 : Nat) = (0, [], 30) := by unfold getF; rw [if_neg (by omega), if_pos (by omega)]
    rw [show markF s.data.toList 8 = (0, [], 30) by unfold markF; rw [if_pos hsh]]
    clear hlt hsh
    go_enter Try.func65, Try.ntmps65
    go_wp2_with fail
    refine (len64 _).mono ?_
    rintro e w0 ⟨rfl, rfl⟩
    go_wp2_with fail
    refine (HT.out _).mono ?_
    rintro e w1 ⟨rfl, b1⟩
    rw [hg]
    unfold takeV_u64
    go_wp2_with fail
    refine (shape_any 0 _).mono ?_
    rintro e w2 ⟨rfl, rfl⟩
    go_wp2
    go_ret3
    exact ⟨rfl, b1⟩
  have hg : getF s.data.toList (8 : Nat) = (getN (s.data.toList.take 8), s.data.toList.drop 8, 0) := by unfold getF; rw [if_neg (by omega), if_neg (by omega)]; rfl
  by_cases hw : wdN (getN (s.data.toList.take 8)) < 8
  · rw [show markF s.data.toList 8 = (0, [], 31) by unfold markF; rw [if_neg hsh, if_pos hw]]
    obtain ⟨n, hn⟩ : ∃ n, getN (s.data.toList.take 8) = n := ⟨_, rfl⟩
    rw [hn] at hw hlt hg
    clear hn hsh
    go_enter Try.func65, Try.ntmps65
    go_wp2_with fail
    refine (len64 _).mono ?_
    rintro e w0 ⟨rfl, rfl⟩
    go_wp2_with fail
    refine (HT.out _).mono ?_
    rintro e w1 ⟨rfl, b1⟩
    rw [hg]
    unfold takeV_u64
    go_wp2_with fail
    refine (shape_any n _).mono ?_
    rintro e w2 ⟨rfl, rfl⟩
    go_wp2
    go_ret3
    exact ⟨rfl, b1⟩
  · rw [show markF s.data.toList 8 = (getN (s.data.toList.take 8), s.data.toList.drop 8, 0) by unfold markF; rw [if_neg hsh, if_neg hw]]
    obtain ⟨n, hn⟩ : ∃ n, getN (s.data.toList.take 8) = n := ⟨_, rfl⟩
    obtain ⟨d, hd⟩ : ∃ d, s.data.toList.drop 8 = d := ⟨_, rfl⟩
    rw [hn] at hw hlt hg
    rw [hd] at hg
    rw [hn, hd]
    clear hn hsh hd
    go_enter Try.func65, Try.ntmps65
    go_wp2_with fail
    refine (len64 _).mono ?_
    rintro e w0 ⟨rfl, rfl⟩
    go_wp2_with fail
    refine (HT.out _).mono ?_
    rintro e w1 ⟨rfl, b1⟩
    rw [hg]
    unfold takeV_u64
    go_wp2_with fail
    refine (shape_any n _).mono ?_
    rintro e w2 ⟨rfl, rfl⟩
    go_wp2
    go_ret3
    exact ⟨rfl, b1⟩
theorem read_nil (s : ByteArray) (hs : s.size ≤ 1000000) (hl : s.data.toList = []) (w : World) :
    Calls Try.prog 55 #[.string s] w fun e w' => e = .returned (getV (readF s.data.toList)) ∧ Below w.heap.size w w' := by
  have HT := Lib.hid (take_u8_any s hs 1 (by omega) (by omega))
  have hg : getF s.data.toList (1 : Nat) = (0, [], 30) := by rw [hl]; rfl
  rw [show readF s.data.toList = (0, [], 30) by rw [hl]; rfl]
  go_enter Try.func55, Try.ntmps55
  go_wp2_with fail
  refine (HT.out _).mono ?_
  rintro e w1 ⟨rfl, b1⟩
  rw [hg]
  unfold takeV_u8
  go_wp2
  go_ret3
  exact ⟨rfl, b1⟩
theorem get_one (b : UInt8) (t : List UInt8) : getF (b :: t) (1 : Nat) = (b.toNat, t, 0) := by
  unfold getF; rw [if_neg (by omega), if_neg (by rw [List.length_cons]; omega)]; simp [getN]
theorem read_one (s : ByteArray) (b : UInt8) (t : List UInt8) (hs : s.size ≤ 1000000) (hl : s.data.toList = b :: t) (hb : b.toNat < 253) (w : World) :
    Calls Try.prog 55 #[.string s] w fun e w' => e = .returned (getV (readF s.data.toList)) ∧ Below w.heap.size w w' := by
  have HT := Lib.hid (take_u8_any s hs 1 (by omega) (by omega))
  have hg : getF s.data.toList (1 : Nat) = (b.toNat, t, 0) := by rw [hl]; exact get_one b t
  rw [show readF s.data.toList = (b.toNat, t, 0) by rw [hl]; simp [readF, hb]]
  clear hl
  have d2 : ((b.toNat : Int) == 253) = false := beq_eq_false_iff_ne.mpr (by omega)
  have d3 : ((b.toNat : Int) == 254) = false := beq_eq_false_iff_ne.mpr (by omega)
  have d4 : ((b.toNat : Int) == 255) = false := beq_eq_false_iff_ne.mpr (by omega)
  have hw : IntKind.u64.wrap (b.toNat : Int) = (b.toNat : Int) := by rw [IntKind.wrap_u64]; omega
  go_enter Try.func55, Try.ntmps55
  go_wp2_with fail
  refine (HT.out _).mono ?_
  rintro e w1 ⟨rfl, b1⟩
  rw [hg]
  unfold takeV_u8
  go_wp2
  go_ret3
  exact ⟨rfl, b1⟩
theorem read_253 (s : ByteArray) (t : List UInt8) (hs : s.size ≤ 1000000) (hl : s.data.toList = 253 :: t) (w : World) :
    Calls Try.prog 55 #[.string s] w fun e w' => e = .returned (getV (readF s.data.toList)) ∧ Below w.heap.size w w' := by
  have HT := Lib.hid (take_u8_any s hs 1 (by omega) (by omega))
  have hz : s.size = t.length + 1 := by rw [← ba_len, hl]; rfl
  have hg : getF s.data.toList (1 : Nat) = (253, t, 0) := by rw [hl]; exact get_one 253 t
  have HM := marked_u16_any ⟨t.toArray⟩ (by rw [← ba_len]; show t.length ≤ 1000000; omega)
  rw [show readF s.data.toList = markF t 2 by rw [hl]; exact readF_mark 253 t (by decide)]
  rw [show (ByteArray.mk t.toArray).data.toList = t from rfl] at HM
  obtain ⟨r, hr⟩ : ∃ r, markF t 2 = r := ⟨_, rfl⟩
  rw [hr] at HM
  rw [hr]
  replace HM := Lib.hid HM
  clear hl hz
  go_enter Try.func55, Try.ntmps55
  go_wp2_with fail
  refine (HT.out _).mono ?_
  rintro e w1 ⟨rfl, b1⟩
  rw [hg]
  unfold takeV_u8
  go_wp2_with fail
  refine (HM.out _).mono ?_
  rintro e w2 ⟨rfl, b2⟩
  have B2 := b1.trans (b2.mono b1.size)
  unfold getV
  go_wp2
  go_ret3
  exact ⟨rfl, B2⟩
theorem read_254 (s : ByteArray) (t : List UInt8) (hs : s.size ≤ 1000000) (hl : s.data.toList = 254 :: t) (w : World) :
    Calls Try.prog 55 #[.string s] w fun e w' => e = .returned (getV (readF s.data.toList)) ∧ Below w.heap.size w w' := by
  have HT := Lib.hid (take_u8_any s hs 1 (by omega) (by omega))
  have hz : s.size = t.length + 1 := by rw [← ba_len, hl]; rfl
  have hg : getF s.data.toList (1 : Nat) = (254, t, 0) := by rw [hl]; exact get_one 254 t
  have HM := marked_u32_any ⟨t.toArray⟩ (by rw [← ba_len]; show t.length ≤ 1000000; omega)
  rw [show readF s.data.toList = markF t 4 by rw [hl]; exact readF_mark 254 t (by decide)]
  rw [show (ByteArray.mk t.toArray).data.toList = t from rfl] at HM
  obtain ⟨r, hr⟩ : ∃ r, markF t 4 = r := ⟨_, rfl⟩
  rw [hr] at HM
  rw [hr]
  replace HM := Lib.hid HM
  clear hl hz
  go_enter Try.func55, Try.ntmps55
  go_wp2_with fail
  refine (HT.out _).mono ?_
  rintro e w1 ⟨rfl, b1⟩
  rw [hg]
  unfold takeV_u8
  go_wp2_with fail
  refine (HM.out _).mono ?_
  rintro e w2 ⟨rfl, b2⟩
  have B2 := b1.trans (b2.mono b1.size)
  unfold getV
  go_wp2
  go_ret3
  exact ⟨rfl, B2⟩
theorem read_255 (s : ByteArray) (t : List UInt8) (hs : s.size ≤ 1000000) (hl : s.data.toList = 255 :: t) (w : World) :
    Calls Try.prog 55 #[.string s] w fun e w' => e = .returned (getV (readF s.data.toList)) ∧ Below w.heap.size w w' := by
  have HT := Lib.hid (take_u8_any s hs 1 (by omega) (by omega))
  have hz : s.size = t.length + 1 := by rw [← ba_len, hl]; rfl
  have hg : getF s.data.toList (1 : Nat) = (255, t, 0) := by rw [hl]; exact get_one 255 t
  have HM := marked_u64_any ⟨t.toArray⟩ (by rw [← ba_len]; show t.length ≤ 1000000; omega)
  rw [show readF s.data.toList = markF t 8 by rw [hl]; exact readF_mark 255 t (by decide)]
  rw [show (ByteArray.mk t.toArray).data.toList = t from rfl] at HM
  obtain ⟨r, hr⟩ : ∃ r, markF t 8 = r := ⟨_, rfl⟩
  rw [hr] at HM
  rw [hr]
  replace HM := Lib.hid HM
  clear hl hz
  go_enter Try.func55, Try.ntmps55
  go_wp2_with fail
  refine (HT.out _).mono ?_
  rintro e w1 ⟨rfl, b1⟩
  rw [hg]
  unfold takeV_u8
  go_wp2_with fail
  refine (HM.out _).mono ?_
  rintro e w2 ⟨rfl, b2⟩
  have B2 := b1.trans (b2.mono b1.size)
  unfold getV
  go_wp2
  go_ret3
  exact ⟨rfl, B2⟩
theorem read_any (s : ByteArray) (hs : s.size ≤ 1000000) (w : World) :
    Calls Try.prog 55 #[.string s] w fun e w' => e = .returned (getV (readF s.data.toList)) ∧ Below w.heap.size w w' := by
  cases hl : s.data.toList with
  | nil => rw [← hl]; exact read_nil s hs hl w
  | cons b t =>
    rw [← hl]
    by_cases h : b.toNat < 253
    · exact read_one s b t hs hl h w
    · have hb := b.toNat_lt
      have h3 : b = 253 ∨ b = 254 ∨ b = 255 := by
        have : b.toNat = 253 ∨ b.toNat = 254 ∨ b.toNat = 255 := by omega
        rcases this with e | e | e
        · exact .inl (UInt8.toNat_inj.mp e)
        · exact .inr (.inl (UInt8.toNat_inj.mp e))
        · exact .inr (.inr (UInt8.toNat_inj.mp e))
      rcases h3 with rfl | rfl | rfl
      · exact read_253 s t hs hl w
      · exact read_254 s t hs hl w
      · exact read_255 s t hs hl w
end Go.Proofs.Ytgcopgnkfokphaa
