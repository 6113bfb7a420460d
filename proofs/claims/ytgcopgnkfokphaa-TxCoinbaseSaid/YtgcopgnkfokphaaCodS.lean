/- The document's own answers for codec: Get, Read and Key. -/
import Derived.Test.YtgcopgnkfokphaaCodR
import Derived.BigQuiet
namespace Go.Proofs.Ytgcopgnkfokphaa
open Go.RowKit
def getV (r : Nat × List UInt8 × Int) : Value := .tuple #[.int .u64 r.1, .string ⟨r.2.1.toArray⟩, .int .i64 r.2.2]
theorem ba_len (s : ByteArray) : s.data.toList.length = s.size := Array.length_toList
theorem ba_drop (s : ByteArray) (k : Nat) : s.extract k s.size = ⟨(s.data.toList.drop k).toArray⟩ := by
  apply ByteArray.ext
  rw [ByteArray.data_extract]
  apply Array.toList_inj.mp
  rw [Array.toList_extract, List.extract_eq_take_drop]
  rw [List.take_of_length_le (by rw [List.length_drop, ba_len]; omega)]
theorem ba_at (s : ByteArray) (j : Nat) (h : j < s.size) : s.data.toList[j]'(by rw [ba_len]; exact h) = s[j] := by
  rw [Array.getElem_toList]; rfl
theorem get_step (s : ByteArray) (j : Nat) (h : j < s.size) (h8 : j < 8) : bits .or .u64 (getN (s.data.toList.take j) : Int) (IntKind.u64.wrap ((s[j].toNat : Int) * 2 ^ (8 * j))) = (getN (s.data.toList.take (j + 1)) : Int) := by
  have hl : (s.data.toList.take j).length = j := by rw [List.length_take, ba_len]; omega
  have hj : j < s.data.toList.length := by rw [ba_len]; exact h
  rw [List.take_succ_eq_append_getElem hj, ← getN_or _ _ (by omega), hl, ba_at s j h]
set_option maxRecDepth 20000 in
set_option maxHeartbeats 1000000 in
theorem refGet_any (s : ByteArray) (hs : s.size ≤ 1000000) (wd : Int) (w : World) :
    Calls Try.prog 32 #[.string s, .int .i64 wd] w fun e w' => e = .returned (getV (getF s.data.toList wd)) ∧ Below w.heap.size w w' := by
  by_cases h1 : wd < 1
  · rw [show getF s.data.toList wd = (0, [], 1) by simp [getF, h1]]
    go_enter Try.func32, Try.ntmps32
    go_wp2
    go_ret3
    exact ⟨rfl, Below.refl _ _⟩
  by_cases h8 : 8 < wd
  · rw [show getF s.data.toList wd = (0, [], 1) by simp [getF, h8]]
    go_enter Try.func32, Try.ntmps32
    go_wp2
    go_ret3
    exact ⟨rfl, Below.refl _ _⟩
  obtain ⟨m, rfl⟩ : ∃ m : Nat, wd = m := ⟨wd.toNat, by omega⟩
  by_cases hm : s.size < m
  · rw [show getF s.data.toList (m : Int) = (0, [], 30) by unfold getF; rw [if_neg (by omega), if_pos (by rw [ba_len]; omega)]]
    have hd : decide ((s.size : Int) < m) = true := by simp; omega
    go_enter Try.func32, Try.ntmps32
    go_wp2
    go_ret3
    exact ⟨rfl, Below.refl _ _⟩
  rw [show getF s.data.toList (m : Int) = (getN (s.data.toList.take m), s.data.toList.drop m, 0) by unfold getF; rw [if_neg (by omega), if_neg (by rw [ba_len]; omega)]; rfl]
  have hd : decide ((s.size : Int) < m) = false := by simp; omega
  have hsl : ∀ W, (Instr.slice 9 (.string s) (some (.int .i64 (m : Int))) none none).run Try.prog W = .ok (.string ⟨(s.data.toList.drop m).toArray⟩) W := fun W => by
    rw [run_slice_string_from_if W 9 s .i64 _ Try.underlying9, if_pos (by omega), ← ba_drop]; rfl
  go_enter Try.func32, Try.ntmps32
  go_wp2_with fail
  go_loopw [7, 8] (fun v i wr => ∃ j : Nat, j ≤ m ∧ i = .int .i64 j ∧ v = .int .u64 (getN (s.data.toList.take j)) ∧ w = wr)
    (fun _ i _ => m - (intOf i).toNat)
  case atStart => exact ⟨0, by omega, rfl, rfl, rfl⟩
  case round =>
    obtain ⟨j, hj, rfl, rfl, rfl⟩ := hrel
    by_cases hlt : j < m
    · have hjs : j < s.size := by omega
      have hg := get_step s j hjs (by omega)
      go_wp2_with fail
      go_roundw
      case rel =>
        refine ⟨j + 1, by omega, by go_num, ?_, trivial⟩
        rw [show IntKind.u64.wrap (s[j].toNat : Int) = s[j].toNat by rw [IntKind.wrap_u64]; have := s[j].toNat_lt; omega, hg]
      case measure => simp [intOf]; omega
    · have hjm : j = m := by omega
      subst hjm
      go_wp2_with fail
      go_quiet (fail)
      go_wp2
      go_ret3
      exact ⟨rfl, below_drewN (Below.refl _ _) _⟩
end Go.Proofs.Ytgcopgnkfokphaa
