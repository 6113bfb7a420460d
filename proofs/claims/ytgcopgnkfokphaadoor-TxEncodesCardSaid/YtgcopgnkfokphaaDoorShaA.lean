/- The leaves of sha: rotations, and the word at a place, each by a contract. -/
import Derived.Test.YtgcopgnkfokphaaDoorProg
import Derived.Test.YtgcopgnkfokphaaDoorU32
import Derived.WalkSpells
import Derived.Deep.QuietTactic
import Derived.BigQuiet
import Derived.Lib.Hide
namespace Go.Proofs.YtgcopgnkfokphaaDoor
open Go.RowKit
set_option maxRecDepth 20000 in
set_option maxHeartbeats 400000 in
theorem rot_any (x : BitVec 32) (n : Nat) (h1 : 1 ≤ n) (h2 : n ≤ 31) (w : World) :
    Calls Tryd.prog 65 #[.int .u32 (wv x), .int .i64 n] w fun e w' => e = .returned (.int .u32 (wv (ror x n))) ∧ w = w' := by
  have hb := u64_neg_and n h1 h2
  go_enter Tryd.func65, Tryd.ntmps65
  go_wp2
  go_ret
  exact ⟨ret_int (by rw [u32_shl, show 32 - (32 - n) = n from by omega, u32_shr, u32_or]; rfl), rfl⟩
/-- the same, the count an Int, for a region that draws -/
theorem rot_quiet (x : BitVec 32) (n : Int) (h1 : 1 ≤ n) (h2 : n ≤ 31) (w : World) :
    Calls Tryd.prog 65 #[.int .u32 (wv x), .int .i64 n] w fun e w' => e = .returned (.int .u32 (wv (ror x n.toNat))) ∧ w' = w := by
  obtain ⟨k, rfl⟩ := Int.eq_ofNat_of_zero_le (show 0 ≤ n by omega)
  exact (rot_any x k (by omega) (by omega) w).mono fun _ _ h => ⟨h.1, h.2.symm⟩
set_option maxRecDepth 20000 in
set_option maxHeartbeats 400000 in
theorem early_any (x : BitVec 32) (w : World) :
    Calls Tryd.prog 63 #[.int .u32 (wv x)] w fun e w' => e = .returned (.int .u32 (wv (ror x 7 ^^^ ror x 18 ^^^ x >>> 3))) ∧ w = w' := by
  go_enter Tryd.func63, Tryd.ntmps63
  go_wp2_with fail
  refine (rot_any x 7 (by omega) (by omega) _).mono ?_
  rintro e w' ⟨rfl, rfl⟩
  go_wp2_with fail
  refine (rot_any x 18 (by omega) (by omega) _).mono ?_
  rintro e w' ⟨rfl, rfl⟩
  go_wp2
  go_ret
  exact ⟨ret_int (by rw [u32_xor]; rw [show (8 : Int) = 2 ^ 3 from rfl, u32_shr, u32_xor]), rfl⟩
set_option maxRecDepth 20000 in
set_option maxHeartbeats 400000 in
theorem late_any (x : BitVec 32) (w : World) :
    Calls Tryd.prog 64 #[.int .u32 (wv x)] w fun e w' => e = .returned (.int .u32 (wv (ror x 17 ^^^ ror x 19 ^^^ x >>> 10))) ∧ w = w' := by
  go_enter Tryd.func64, Tryd.ntmps64
  go_wp2_with fail
  refine (rot_any x 17 (by omega) (by omega) _).mono ?_
  rintro e w' ⟨rfl, rfl⟩
  go_wp2_with fail
  refine (rot_any x 19 (by omega) (by omega) _).mono ?_
  rintro e w' ⟨rfl, rfl⟩
  go_wp2
  go_ret
  exact ⟨ret_int (by rw [u32_xor]; rw [show (1024 : Int) = 2 ^ 10 from rfl, u32_shr, u32_xor]), rfl⟩
set_option maxRecDepth 20000 in
set_option maxHeartbeats 400000 in
theorem word_any (s : ByteArray) (i : Nat) (hs : 4 * i + 4 ≤ s.size) (hm : s.size ≤ 1000000) (w : World) :
    Calls Tryd.prog 61 #[.string s, .int .i64 i] w fun e w' => e = .returned (.int .u32 (wv (wordL s.data.toList i))) ∧ ∃ n, w' = w.drewN n := by
  go_enter Tryd.func61, Tryd.ntmps61
  go_wp2
  have h4 : (s.extract (4 * i) (4 * i + 4)).size = 4 := by rw [ByteArray.size_extract]; omega
  have hb := extract_byte s (4 * i) (4 * i + 4)
  generalize s.extract (4 * i) (4 * i + 4) = t at *
  have h40 : (0:Int) < t.size := by omega
  have h41 : (1:Int) < t.size := by omega
  have h42 : (2:Int) < t.size := by omega
  have h43 : (3:Int) < t.size := by omega
  have e0 := Lib.hid (hb 0 (by omega))
  have e1 := Lib.hid (hb 1 (by omega))
  have e2 := Lib.hid (hb 2 (by omega))
  have e3 := Lib.hid (hb 3 (by omega))
  clear hb
  go_quiet (fail)
  go_wp2
  go_ret
  exact ⟨ret_int (by rw [beWord_eq, e0.out, e1.out, e2.out, e3.out]; rfl), _, rfl⟩
set_option maxRecDepth 20000 in
set_option maxHeartbeats 400000 in
theorem refRot_any (x : BitVec 32) (n : Nat) (h1 : 1 ≤ n) (h2 : n ≤ 31) (w : World) :
    Calls Tryd.prog 57 #[.int .u32 (wv x), .int .i64 n] w fun e w' => e = .returned (.int .u32 (wv (ror x n))) ∧ ∃ n, w' = w.drewN n := by
  go_enter Tryd.func57, Tryd.ntmps57
  go_wp2
  go_quiet (fail)
  go_wp2
  go_ret
  exact ⟨ret_int (by rw [u32_shl, u32_shr, u32_or, BitVec.or_comm]; rfl), _, rfl⟩
end Go.Proofs.YtgcopgnkfokphaaDoor
