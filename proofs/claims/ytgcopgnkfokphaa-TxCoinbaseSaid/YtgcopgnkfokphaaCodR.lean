/- The document's own answers for codec: Put, Compact and the bytes of a key. -/
import Derived.Test.YtgcopgnkfokphaaConv
import Derived.Test.YtgcopgnkfokphaaBytes
import Derived.Test.YtgcopgnkfokphaaApp2
import Derived.Test.YtgcopgnkfokphaaCodP
namespace Go.Proofs.Ytgcopgnkfokphaa
open Go.RowKit
theorem byte_info : (Try.prog.info? 5).map (fun i => (i.zero, i.size, i.bytes)) = some (some (.int .u8 0), 1, 1) := by kernel_rfl
theorem putB_val (n j : Nat) : (n : Int) / 2 ^ (8 * j) % 256 = ((putB n j).toNat : Int) := by
  rw [putB_nat, Int.natCast_emod, Int.natCast_ediv, Int.natCast_pow]; rfl
set_option maxRecDepth 20000 in
set_option maxHeartbeats 1000000 in
theorem refPut_any (n : Nat) (wd : Int) (w : World) :
    Calls Try.prog 66 #[.int .u64 n, .int .i64 wd] w fun e w' => e = .returned (.string ⟨(putF n wd).toArray⟩) ∧ Below w.heap.size w w' := by
  by_cases h1 : wd < 1
  · rw [show putF n wd = [] by simp [putF, h1]]
    go_enter Try.func66, Try.ntmps66
    go_wp2
    go_ret
    exact ⟨rfl, Below.refl _ _⟩
  by_cases h8 : 8 < wd
  · rw [show putF n wd = [] by simp [putF, h8]]
    go_enter Try.func66, Try.ntmps66
    go_wp2
    go_ret
    exact ⟨rfl, Below.refl _ _⟩
  obtain ⟨m, rfl⟩ : ∃ m : Nat, wd = m := ⟨wd.toNat, by omega⟩
  rw [show putF n (m : Int) = putL n m by simp [putF, h1, h8]]
  go_enter Try.func66, Try.ntmps66
  go_wp2_with fail
  go_loopw [5, 6] (fun v i wr => ∃ j : Nat, j ≤ m ∧ i = .int .i64 j ∧ wr.ownsRow w.heap.size 5 1 v j (Lib.byteCells (putL n j)) ∧ Below w.heap.size w wr)
    (fun _ i _ => m - (intOf i).toNat)
  case atStart =>
    refine ⟨0, by omega, rfl, ?_, (Below.refl _ _).alloc (Nat.le_refl _) _⟩
    have := World.ownsRow_lit (e := 5) (size := 1) (base := w.heap.size) w #[] 0 (by simp) (by unfold maxLen; omega) (by simp)
    simpa [Lib.byteCells, putL] using this
  case round =>
    obtain ⟨j, hj, rfl, hown, hb⟩ := hrel
    have HO := Lib.hid hown
    clear hown
    by_cases hlt : j < m
    · go_wp2_with (at_builtin; refine wpList_append1g rfl (.tmp 19) (.tmp 25) 74 rfl w.heap.size 5 _ 1 Try.underlying74 byte_info rfl (by omega) _ _ _ rfl (HO.out.alloc _) _ 1 (.int .u8 ((n : Int) / 2 ^ (8 * j) % 256)) rfl (Blk.new _ _ _) rfl (by omega) (by have := hb.size; simp; omega) ?_; intro v' w' o' b' _)
      go_roundw
      case rel =>
        refine ⟨j + 1, by omega, by go_num, ?_, (hb.alloc hb.size _).trans (grown_below b' (HO.out.alloc _) (by simp; have := hb.size; omega))⟩
        rw [putL_succ, show Lib.byteCells (putL n j ++ [putB n j]) = Lib.byteCells (putL n j) ++ [.int .u8 ((n : Int) / 2 ^ (8 * j) % 256)] by unfold Lib.byteCells; rw [List.map_append, putB_val]; rfl]
        exact o'
      case measure => simp [intOf]; omega
    · have hjm : j = m := by omega
      subst hjm
      have hconv := conv_own (w := wr) (base := w.heap.size) (v := u5) (l := putL n j) (by rw [putL_len]; exact HO.out)
      go_wp2
      go_ret
      exact ⟨rfl, hb⟩
theorem refCompact_any (n : Nat) (w : World) :
    Calls Try.prog 58 #[.int .u64 n] w fun e w' => e = .returned (.string ⟨(cmpL n).toArray⟩) ∧ Below w.heap.size w w' := by
  by_cases h1 : n < 253
  · have hd : decide ((n : Int) < 253) = true := by simp; omega
    go_enter Try.func58, Try.ntmps58
    go_wp2_with fail
    refine (refPut_any n 1 _).mono ?_
    rintro e w1 ⟨rfl, b1⟩
    rw [show putF n 1 = cmpL n by simp [putF, cmpL, h1]]
    go_wp2
    go_ret
    exact ⟨rfl, b1⟩
  have d1 : decide ((n : Int) < 253) = false := by simp; omega
  by_cases h2 : n ≤ 65535
  · have d2 : decide ((n : Int) ≤ 65535) = true := by simp; omega
    rw [show cmpL n = [253] ++ putF n 2 by simp [putF, cmpL, h1, h2]]
    go_enter Try.func58, Try.ntmps58
    go_wp2_with fail
    refine (refPut_any n 2 _).mono ?_
    rintro e w1 ⟨rfl, b1⟩
    have hadd : ∀ V, (Op.stringOp .add ⟨[253].toArray⟩ ⟨(putF n 2).toArray⟩).run Try.prog V = .ok (.string ⟨([253] ++ putF n 2).toArray⟩) V := fun V => run_string_add_lists V _ _ (by decide) (by rw [show putF n 2 = putL n 2 from rfl, putL_len]; decide)
    go_wp2
    go_ret
    exact ⟨rfl, b1⟩
  have d2 : decide ((n : Int) ≤ 65535) = false := by simp; omega
  by_cases h3 : n ≤ 4294967295
  · have d3 : decide ((n : Int) ≤ 4294967295) = true := by simp; omega
    rw [show cmpL n = [254] ++ putF n 4 by simp [putF, cmpL, h1, h2, h3]]
    go_enter Try.func58, Try.ntmps58
    go_wp2_with fail
    refine (refPut_any n 4 _).mono ?_
    rintro e w1 ⟨rfl, b1⟩
    have hadd : ∀ V, (Op.stringOp .add ⟨[254].toArray⟩ ⟨(putF n 4).toArray⟩).run Try.prog V = .ok (.string ⟨([254] ++ putF n 4).toArray⟩) V := fun V => run_string_add_lists V _ _ (by decide) (by rw [show putF n 4 = putL n 4 from rfl, putL_len]; decide)
    go_wp2
    go_ret
    exact ⟨rfl, b1⟩
  have d3 : decide ((n : Int) ≤ 4294967295) = false := by simp; omega
  rw [show cmpL n = [255] ++ putF n 8 by simp [putF, cmpL, h1, h2, h3]]
  go_enter Try.func58, Try.ntmps58
  go_wp2_with fail
  refine (refPut_any n 8 _).mono ?_
  rintro e w1 ⟨rfl, b1⟩
  have hadd : ∀ V, (Op.stringOp .add ⟨[255].toArray⟩ ⟨(putF n 8).toArray⟩).run Try.prog V = .ok (.string ⟨([255] ++ putF n 8).toArray⟩) V := fun V => run_string_add_lists V _ _ (by decide) (by rw [show putF n 8 = putL n 8 from rfl, putL_len]; decide)
  go_wp2
  go_ret
  exact ⟨rfl, b1⟩
end Go.Proofs.Ytgcopgnkfokphaa
