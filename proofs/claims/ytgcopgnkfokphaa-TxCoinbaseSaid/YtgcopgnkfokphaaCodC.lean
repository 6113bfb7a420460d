/- codec.take at each of its four kinds: so many bytes as a number. -/
import Derived.Test.YtgcopgnkfokphaaCodS
namespace Go.Proofs.Ytgcopgnkfokphaa
open Go.RowKit
theorem getN_or_u8 (l : List UInt8) (b : UInt8) (h : l.length < 1) : bits .or .u8 (getN l : Int) (IntKind.u8.wrap ((b.toNat : Int) * 2 ^ (8 * l.length))) = (getN (l ++ [b]) : Int) := by
  have h1 := getN_lt l
  have h2 := getN_lt (l ++ [b])
  have hb := b.toNat_lt
  have h3 : getN (l ++ [b]) < 2 ^ 8 := Nat.lt_of_lt_of_le h2 (Nat.pow_le_pow_right (by omega) (by simp; omega))
  have h4 := getN_snoc l b
  have h5 : getN l < 2 ^ 8 := by omega
  have h6 : 2 ^ (8 * l.length) * b.toNat < 2 ^ 8 := by omega
  have e1 : IntKind.u8.wrap ((b.toNat : Int) * 2 ^ (8 * l.length)) = ((2 ^ (8 * l.length) * b.toNat : Nat) : Int) := by
    have : (b.toNat : Int) * 2 ^ (8 * l.length) = ((2 ^ (8 * l.length) * b.toNat : Nat) : Int) := by push_cast; rw [Int.mul_comm]
    rw [this, IntKind.wrap_u8]; omega
  rw [e1]
  show IntKind.u8.wrap ((BitVec.ofInt 8 ((getN l : Nat) : Int) ||| BitVec.ofInt 8 ((2 ^ (8 * l.length) * b.toNat : Nat) : Int)).toNat : Int) = _
  rw [BitVec.ofInt_natCast, BitVec.ofInt_natCast, BitVec.toNat_or, BitVec.toNat_ofNat, BitVec.toNat_ofNat, Nat.mod_eq_of_lt h5, Nat.mod_eq_of_lt h6, Nat.or_comm, ← Nat.two_pow_add_eq_or_of_lt h1, Nat.add_comm, ← h4, IntKind.wrap_u8]
  omega
theorem step_u8 (s : ByteArray) (j : Nat) (h : j < s.size) (h8 : j < 1) : bits .or .u8 (getN (s.data.toList.take j) : Int) (IntKind.u8.wrap ((s[j].toNat : Int) * 2 ^ (8 * j))) = (getN (s.data.toList.take (j + 1)) : Int) := by
  have hl : (s.data.toList.take j).length = j := by rw [List.length_take, ba_len]; omega
  have hj : j < s.data.toList.length := by rw [ba_len]; exact h
  rw [List.take_succ_eq_append_getElem hj, ← getN_or_u8 _ _ (by omega), hl, ba_at s j h]
def takeV_u8 (r : Nat × List UInt8 × Int) : Value := .tuple #[.int .u8 r.1, .string ⟨r.2.1.toArray⟩, .int .i64 r.2.2]
set_option maxRecDepth 20000 in
set_option maxHeartbeats 1000000 in
theorem take_u8_any (s : ByteArray) (_hs : s.size ≤ 1000000) (m : Nat) (h1 : 1 ≤ m) (h8 : m ≤ 1) (w : World) :
    Calls Try.prog 62 #[.string s, .int .i64 m] w fun e w' => e = .returned (takeV_u8 (getF s.data.toList m)) ∧ Below w.heap.size w w' := by
  by_cases hm : s.size < m
  · rw [show getF s.data.toList (m : Int) = (0, [], 30) by unfold getF; rw [if_neg (by omega), if_pos (by rw [ba_len]; omega)]]
    have hd : decide ((s.size : Int) < m) = true := by simp; omega
    go_enter Try.func62, Try.ntmps62
    go_wp2
    go_ret3
    exact ⟨rfl, Below.refl _ _⟩
  rw [show getF s.data.toList (m : Int) = (getN (s.data.toList.take m), s.data.toList.drop m, 0) by unfold getF; rw [if_neg (by omega), if_neg (by rw [ba_len]; omega)]; rfl]
  have hd : decide ((s.size : Int) < m) = false := by simp; omega
  have hsl : ∀ W, (Instr.slice 9 (.string s) (some (.int .i64 (m : Int))) none none).run Try.prog W = .ok (.string ⟨(s.data.toList.drop m).toArray⟩) W := fun W => by
    rw [run_slice_string_from_if W 9 s .i64 _ Try.underlying9, if_pos (by omega), ← ba_drop]; rfl
  go_enter Try.func62, Try.ntmps62
  go_wp2_with fail
  go_loopw [7, 14] (fun v i wr => ∃ j : Nat, j ≤ m ∧ i = .int .i64 j ∧ v = .int .u8 (getN (s.data.toList.take j)) ∧ w = wr)
    (fun _ i _ => m - (intOf i).toNat)
  case atStart => exact ⟨0, by omega, rfl, rfl, rfl⟩
  case round =>
    obtain ⟨j, hj, rfl, rfl, rfl⟩ := hrel
    by_cases hlt : j < m
    · have hjs : j < s.size := by omega
      have hg := step_u8 s j hjs (by omega)
      go_wp2_with fail
      go_roundw
      case rel =>
        refine ⟨j + 1, by omega, by go_num, ?_, trivial⟩
        rw [IntKind.wrap_u8] at hg; rw [hg]
      case measure => simp [intOf]; omega
    · have hjm : j = m := by omega
      subst hjm
      go_wp2_with fail
      go_quiet (fail)
      go_wp2
      go_ret3
      exact ⟨rfl, below_drewN (Below.refl _ _) _⟩
theorem getN_or_u16 (l : List UInt8) (b : UInt8) (h : l.length < 2) : bits .or .u16 (getN l : Int) (IntKind.u16.wrap ((b.toNat : Int) * 2 ^ (8 * l.length))) = (getN (l ++ [b]) : Int) := by
  have h1 := getN_lt l
  have h2 := getN_lt (l ++ [b])
  have hb := b.toNat_lt
  have h3 : getN (l ++ [b]) < 2 ^ 16 := Nat.lt_of_lt_of_le h2 (Nat.pow_le_pow_right (by omega) (by simp; omega))
  have h4 := getN_snoc l b
  have h5 : getN l < 2 ^ 16 := by omega
  have h6 : 2 ^ (8 * l.length) * b.toNat < 2 ^ 16 := by omega
  have e1 : IntKind.u16.wrap ((b.toNat : Int) * 2 ^ (8 * l.length)) = ((2 ^ (8 * l.length) * b.toNat : Nat) : Int) := by
    have : (b.toNat : Int) * 2 ^ (8 * l.length) = ((2 ^ (8 * l.length) * b.toNat : Nat) : Int) := by push_cast; rw [Int.mul_comm]
    rw [this, IntKind.wrap_u16]; omega
  rw [e1]
  show IntKind.u16.wrap ((BitVec.ofInt 16 ((getN l : Nat) : Int) ||| BitVec.ofInt 16 ((2 ^ (8 * l.length) * b.toNat : Nat) : Int)).toNat : Int) = _
  rw [BitVec.ofInt_natCast, BitVec.ofInt_natCast, BitVec.toNat_or, BitVec.toNat_ofNat, BitVec.toNat_ofNat, Nat.mod_eq_of_lt h5, Nat.mod_eq_of_lt h6, Nat.or_comm, ← Nat.two_pow_add_eq_or_of_lt h1, Nat.add_comm, ← h4, IntKind.wrap_u16]
  omega
theorem step_u16 (s : ByteArray) (j : Nat) (h : j < s.size) (h8 : j < 2) : bits .or .u16 (getN (s.data.toList.take j) : Int) (IntKind.u16.wrap ((s[j].toNat : Int) * 2 ^ (8 * j))) = (getN (s.data.toList.take (j + 1)) : Int) := by
  have hl : (s.data.toList.take j).length = j := by rw [List.length_take, ba_len]; omega
  have hj : j < s.data.toList.length := by rw [ba_len]; exact h
  rw [List.take_succ_eq_append_getElem hj, ← getN_or_u16 _ _ (by omega), hl, ba_at s j h]
def takeV_u16 (r : Nat × List UInt8 × Int) : Value := .tuple #[.int .u16 r.1, .string ⟨r.2.1.toArray⟩, .int .i64 r.2.2]
set_option maxRecDepth 20000 in
set_option maxHeartbeats 1000000 in
theorem take_u16_any (s : ByteArray) (hs : s.size ≤ 1000000) (m : Nat) (h1 : 1 ≤ m) (h8 : m ≤ 2) (w : World) :
    Calls Try.prog 69 #[.string s, .int .i64 m] w fun e w' => e = .returned (takeV_u16 (getF s.data.toList m)) ∧ Below w.heap.size w w' := by
  by_cases hm : s.size < m
  · rw [show getF s.data.toList (m : Int) = (0, [], 30) by unfold getF; rw [if_neg (by omega), if_pos (by rw [ba_len]; omega)]]
    have hd : decide ((s.size : Int) < m) = true := by simp; omega
    go_enter Try.func69, Try.ntmps69
    go_wp2
    go_ret3
    exact ⟨rfl, Below.refl _ _⟩
  rw [show getF s.data.toList (m : Int) = (getN (s.data.toList.take m), s.data.toList.drop m, 0) by unfold getF; rw [if_neg (by omega), if_neg (by rw [ba_len]; omega)]; rfl]
  have hd : decide ((s.size : Int) < m) = false := by simp; omega
  have hsl : ∀ W, (Instr.slice 9 (.string s) (some (.int .i64 (m : Int))) none none).run Try.prog W = .ok (.string ⟨(s.data.toList.drop m).toArray⟩) W := fun W => by
    rw [run_slice_string_from_if W 9 s .i64 _ Try.underlying9, if_pos (by omega), ← ba_drop]; rfl
  go_enter Try.func69, Try.ntmps69
  go_wp2_with fail
  go_loopw [7, 14] (fun v i wr => ∃ j : Nat, j ≤ m ∧ i = .int .i64 j ∧ v = .int .u16 (getN (s.data.toList.take j)) ∧ w = wr)
    (fun _ i _ => m - (intOf i).toNat)
  case atStart => exact ⟨0, by omega, rfl, rfl, rfl⟩
  case round =>
    obtain ⟨j, hj, rfl, rfl, rfl⟩ := hrel
    by_cases hlt : j < m
    · have hjs : j < s.size := by omega
      have hg := step_u16 s j hjs (by omega)
      go_wp2_with fail
      go_roundw
      case rel =>
        refine ⟨j + 1, by omega, by go_num, ?_, trivial⟩
        rw [show IntKind.u16.wrap (s[j].toNat : Int) = s[j].toNat by rw [IntKind.wrap_u16]; have := s[j].toNat_lt; omega, hg]
      case measure => simp [intOf]; omega
    · have hjm : j = m := by omega
      subst hjm
      go_wp2_with fail
      go_quiet (fail)
      go_wp2
      go_ret3
      exact ⟨rfl, below_drewN (Below.refl _ _) _⟩
theorem getN_or_u32 (l : List UInt8) (b : UInt8) (h : l.length < 4) : bits .or .u32 (getN l : Int) (IntKind.u32.wrap ((b.toNat : Int) * 2 ^ (8 * l.length))) = (getN (l ++ [b]) : Int) := by
  have h1 := getN_lt l
  have h2 := getN_lt (l ++ [b])
  have hb := b.toNat_lt
  have h3 : getN (l ++ [b]) < 2 ^ 32 := Nat.lt_of_lt_of_le h2 (Nat.pow_le_pow_right (by omega) (by simp; omega))
  have h4 := getN_snoc l b
  have h5 : getN l < 2 ^ 32 := by omega
  have h6 : 2 ^ (8 * l.length) * b.toNat < 2 ^ 32 := by omega
  have e1 : IntKind.u32.wrap ((b.toNat : Int) * 2 ^ (8 * l.length)) = ((2 ^ (8 * l.length) * b.toNat : Nat) : Int) := by
    have : (b.toNat : Int) * 2 ^ (8 * l.length) = ((2 ^ (8 * l.length) * b.toNat : Nat) : Int) := by push_cast; rw [Int.mul_comm]
    rw [this, IntKind.wrap_u32]; omega
  rw [e1]
  show IntKind.u32.wrap ((BitVec.ofInt 32 ((getN l : Nat) : Int) ||| BitVec.ofInt 32 ((2 ^ (8 * l.length) * b.toNat : Nat) : Int)).toNat : Int) = _
  rw [BitVec.ofInt_natCast, BitVec.ofInt_natCast, BitVec.toNat_or, BitVec.toNat_ofNat, BitVec.toNat_ofNat, Nat.mod_eq_of_lt h5, Nat.mod_eq_of_lt h6, Nat.or_comm, ← Nat.two_pow_add_eq_or_of_lt h1, Nat.add_comm, ← h4, IntKind.wrap_u32]
  omega
theorem step_u32 (s : ByteArray) (j : Nat) (h : j < s.size) (h8 : j < 4) : bits .or .u32 (getN (s.data.toList.take j) : Int) (IntKind.u32.wrap ((s[j].toNat : Int) * 2 ^ (8 * j))) = (getN (s.data.toList.take (j + 1)) : Int) := by
  have hl : (s.data.toList.take j).length = j := by rw [List.length_take, ba_len]; omega
  have hj : j < s.data.toList.length := by rw [ba_len]; exact h
  rw [List.take_succ_eq_append_getElem hj, ← getN_or_u32 _ _ (by omega), hl, ba_at s j h]
def takeV_u32 (r : Nat × List UInt8 × Int) : Value := .tuple #[.int .u32 r.1, .string ⟨r.2.1.toArray⟩, .int .i64 r.2.2]
set_option maxRecDepth 20000 in
set_option maxHeartbeats 1000000 in
theorem take_u32_any (s : ByteArray) (hs : s.size ≤ 1000000) (m : Nat) (h1 : 1 ≤ m) (h8 : m ≤ 4) (w : World) :
    Calls Try.prog 70 #[.string s, .int .i64 m] w fun e w' => e = .returned (takeV_u32 (getF s.data.toList m)) ∧ Below w.heap.size w w' := by
  by_cases hm : s.size < m
  · rw [show getF s.data.toList (m : Int) = (0, [], 30) by unfold getF; rw [if_neg (by omega), if_pos (by rw [ba_len]; omega)]]
    have hd : decide ((s.size : Int) < m) = true := by simp; omega
    go_enter Try.func70, Try.ntmps70
    go_wp2
    go_ret3
    exact ⟨rfl, Below.refl _ _⟩
  rw [show getF s.data.toList (m : Int) = (getN (s.data.toList.take m), s.data.toList.drop m, 0) by unfold getF; rw [if_neg (by omega), if_neg (by rw [ba_len]; omega)]; rfl]
  have hd : decide ((s.size : Int) < m) = false := by simp; omega
  have hsl : ∀ W, (Instr.slice 9 (.string s) (some (.int .i64 (m : Int))) none none).run Try.prog W = .ok (.string ⟨(s.data.toList.drop m).toArray⟩) W := fun W => by
    rw [run_slice_string_from_if W 9 s .i64 _ Try.underlying9, if_pos (by omega), ← ba_drop]; rfl
  go_enter Try.func70, Try.ntmps70
  go_wp2_with fail
  go_loopw [7, 14] (fun v i wr => ∃ j : Nat, j ≤ m ∧ i = .int .i64 j ∧ v = .int .u32 (getN (s.data.toList.take j)) ∧ w = wr)
    (fun _ i _ => m - (intOf i).toNat)
  case atStart => exact ⟨0, by omega, rfl, rfl, rfl⟩
  case round =>
    obtain ⟨j, hj, rfl, rfl, rfl⟩ := hrel
    by_cases hlt : j < m
    · have hjs : j < s.size := by omega
      have hg := step_u32 s j hjs (by omega)
      go_wp2_with fail
      go_roundw
      case rel =>
        refine ⟨j + 1, by omega, by go_num, ?_, trivial⟩
        rw [IntKind.wrap_u32] at hg; rw [show (s[j].toNat : Int) % 4294967296 = s[j].toNat by have := s[j].toNat_lt; omega, hg]
      case measure => simp [intOf]; omega
    · have hjm : j = m := by omega
      subst hjm
      go_wp2_with fail
      go_quiet (fail)
      go_wp2
      go_ret3
      exact ⟨rfl, below_drewN (Below.refl _ _) _⟩
theorem getN_or_u64 (l : List UInt8) (b : UInt8) (h : l.length < 8) : bits .or .u64 (getN l : Int) (IntKind.u64.wrap ((b.toNat : Int) * 2 ^ (8 * l.length))) = (getN (l ++ [b]) : Int) := getN_or l b h
theorem step_u64 (s : ByteArray) (j : Nat) (h : j < s.size) (h8 : j < 8) : bits .or .u64 (getN (s.data.toList.take j) : Int) (IntKind.u64.wrap ((s[j].toNat : Int) * 2 ^ (8 * j))) = (getN (s.data.toList.take (j + 1)) : Int) := by
  have hl : (s.data.toList.take j).length = j := by rw [List.length_take, ba_len]; omega
  have hj : j < s.data.toList.length := by rw [ba_len]; exact h
  rw [List.take_succ_eq_append_getElem hj, ← getN_or_u64 _ _ (by omega), hl, ba_at s j h]
def takeV_u64 (r : Nat × List UInt8 × Int) : Value := .tuple #[.int .u64 r.1, .string ⟨r.2.1.toArray⟩, .int .i64 r.2.2]
set_option maxRecDepth 20000 in
set_option maxHeartbeats 1000000 in
theorem take_u64_any (s : ByteArray) (hs : s.size ≤ 1000000) (m : Nat) (h1 : 1 ≤ m) (h8 : m ≤ 8) (w : World) :
    Calls Try.prog 67 #[.string s, .int .i64 m] w fun e w' => e = .returned (takeV_u64 (getF s.data.toList m)) ∧ Below w.heap.size w w' := by
  by_cases hm : s.size < m
  · rw [show getF s.data.toList (m : Int) = (0, [], 30) by unfold getF; rw [if_neg (by omega), if_pos (by rw [ba_len]; omega)]]
    have hd : decide ((s.size : Int) < m) = true := by simp; omega
    go_enter Try.func67, Try.ntmps67
    go_wp2
    go_ret3
    exact ⟨rfl, Below.refl _ _⟩
  rw [show getF s.data.toList (m : Int) = (getN (s.data.toList.take m), s.data.toList.drop m, 0) by unfold getF; rw [if_neg (by omega), if_neg (by rw [ba_len]; omega)]; rfl]
  have hd : decide ((s.size : Int) < m) = false := by simp; omega
  have hsl : ∀ W, (Instr.slice 9 (.string s) (some (.int .i64 (m : Int))) none none).run Try.prog W = .ok (.string ⟨(s.data.toList.drop m).toArray⟩) W := fun W => by
    rw [run_slice_string_from_if W 9 s .i64 _ Try.underlying9, if_pos (by omega), ← ba_drop]; rfl
  go_enter Try.func67, Try.ntmps67
  go_wp2_with fail
  go_loopw [7, 14] (fun v i wr => ∃ j : Nat, j ≤ m ∧ i = .int .i64 j ∧ v = .int .u64 (getN (s.data.toList.take j)) ∧ w = wr)
    (fun _ i _ => m - (intOf i).toNat)
  case atStart => exact ⟨0, by omega, rfl, rfl, rfl⟩
  case round =>
    obtain ⟨j, hj, rfl, rfl, rfl⟩ := hrel
    by_cases hlt : j < m
    · have hjs : j < s.size := by omega
      have hg := step_u64 s j hjs (by omega)
      go_wp2_with fail
      go_roundw
      case rel =>
        refine ⟨j + 1, by omega, by go_num, ?_, trivial⟩
        rw [show IntKind.u64.wrap (s[j].toNat : Int) = s[j].toNat by rw [IntKind.wrap_u64]; have := s[j].toNat_lt; omega, hg]
      case measure => simp [intOf]; omega
    · have hjm : j = m := by omega
      subst hjm
      go_wp2_with fail
      go_quiet (fail)
      go_wp2
      go_ret3
      exact ⟨rfl, below_drewN (Below.refl _ _) _⟩
end Go.Proofs.Ytgcopgnkfokphaa
