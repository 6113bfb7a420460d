/- tx: the bytes of a number, an amount, a point, an out, a count. -/
import Derived.Test.YthpnmmilioonhaaTxQ
import Derived.Test.YthpnmmilioonhaaGenA
import Derived.Test.YthpnmmilioonhaaCodAll
namespace Go.Proofs.Ythpnmmilioonhaa
open Go.RowKit
theorem number_any (z : IntV .u32) (w : World) :
    Calls Try.prog 60 #[.int .u32 z.1] w fun e w' => e = .returned (.string ⟨(putL z.1.toNat 4).toArray⟩) ∧ Below w.heap.size w w' := by
  have hz := wf_u32.1 z.2
  have hc : IntKind.u64.wrap z.1 = (z.1.toNat : Int) := by rw [IntKind.wrap_u64]; omega
  obtain ⟨n, hn⟩ : ∃ n : Nat, z.1.toNat = n := ⟨_, rfl⟩
  rw [hn] at hc ⊢
  generalize z.1 = y at hc
  clear hz hn
  go_enter Try.func60, Try.ntmps60
  go_wp2_with fail
  refine (cput_any n 4 _).mono ?_
  rintro e w1 ⟨rfl, b1⟩
  rw [show putF n 4 = putL n 4 by unfold putF; rw [if_neg (by omega)]; rfl]
  go_wp2
  go_ret
  exact ⟨rfl, b1⟩
theorem amount_any (z : IntV .i64) (w : World) :
    Calls Try.prog 69 #[.int .i64 z.1] w fun e w' => e = .returned (.string ⟨(putL (ofI64 z) 8).toArray⟩) ∧ Below w.heap.size w w' := by
  have hc : IntKind.u64.wrap z.1 = (ofI64 z : Int) := by rw [IntKind.wrap_u64]; unfold ofI64; omega
  obtain ⟨n, hn⟩ : ∃ n : Nat, ofI64 z = n := ⟨_, rfl⟩
  rw [hn] at hc ⊢
  generalize z.1 = y at hc
  clear hn
  go_enter Try.func69, Try.ntmps69
  go_wp2_with fail
  refine (cput_any n 8 _).mono ?_
  rintro e w1 ⟨rfl, b1⟩
  rw [show putF n 8 = putL n 8 by unfold putF; rw [if_neg (by omega)]; rfl]
  go_wp2
  go_ret
  exact ⟨rfl, b1⟩
theorem tyPt : RowTy Try.prog 40 49 (encKI .u32) 33 := ⟨Try.underlying40, by kernel_rfl, encKI_len _, encKI_one _, Try.isAgg49, by omega⟩
theorem tyOut : RowTy Try.prog 41 92 (encIK .i64) 33 := ⟨Try.underlying41, by kernel_rfl, encIK_len _, encIK_one _, Try.isAgg92, by omega⟩
theorem tyKy : RowTy Try.prog 42 24 encK 32 := ⟨Try.underlying42, by kernel_rfl, encK_len, encK_one, Try.isAgg24, by omega⟩
theorem countPt_any (A : Option Addr) (n c : Nat) (hn : n ≤ 1000000) (w : World) :
    Calls Try.prog 61 #[.slice A n c] w fun e w' => e = .returned (.string ⟨(cmpL n).toArray⟩) ∧ Below w.heap.size w w' := by
  have hc : IntKind.u64.wrap (n : Int) = (n : Int) := by rw [IntKind.wrap_u64]; omega
  go_enter Try.func61, Try.ntmps61
  go_wp2_with fail
  refine (ccompact_any n _).mono ?_
  rintro e w1 ⟨rfl, b1⟩
  go_wp2
  go_ret
  exact ⟨rfl, b1⟩
theorem countOut_any (A : Option Addr) (n c : Nat) (hn : n ≤ 1000000) (w : World) :
    Calls Try.prog 64 #[.slice A n c] w fun e w' => e = .returned (.string ⟨(cmpL n).toArray⟩) ∧ Below w.heap.size w w' := by
  have hc : IntKind.u64.wrap (n : Int) = (n : Int) := by rw [IntKind.wrap_u64]; omega
  go_enter Try.func64, Try.ntmps64
  go_wp2_with fail
  refine (ccompact_any n _).mono ?_
  rintro e w1 ⟨rfl, b1⟩
  go_wp2
  go_ret
  exact ⟨rfl, b1⟩
theorem countKey_any (A : Option Addr) (n c : Nat) (hn : n ≤ 1000000) (w : World) :
    Calls Try.prog 67 #[.slice A n c] w fun e w' => e = .returned (.string ⟨(cmpL n).toArray⟩) ∧ Below w.heap.size w w' := by
  have hc : IntKind.u64.wrap (n : Int) = (n : Int) := by rw [IntKind.wrap_u64]; omega
  go_enter Try.func67, Try.ntmps67
  go_wp2_with fail
  refine (ccompact_any n _).mono ?_
  rintro e w1 ⟨rfl, b1⟩
  go_wp2
  go_ret
  exact ⟨rfl, b1⟩
theorem key_info : (Try.prog.info? 24).map (·.size) = some 32 := by kernel_rfl
theorem bytesK_any (k : K32) (w : World) :
    Calls Try.prog 41 #[.agg (encK k).toArray] w fun e w' => e = .returned (.string ⟨k.1.toArray⟩) ∧ Below w.heap.size w w' := by
  rw [encK_arr]; exact bytes_any k.1 k.2 w
theorem point_any (p : K32 × IntV .u32) (w : World) :
    Calls Try.prog 63 #[.agg (encKI .u32 p).toArray] w fun e w' => e = .returned (.string ⟨(ptB p).toArray⟩) ∧ Below w.heap.size w w' := by
  have hb : RowC (w.alloc (.cells (encKI .u32 p).toArray 49)) w.heap.size 0 (encKI .u32 p) := RowC.of_blk (Blk.new _ _ _)
  have hk : ∀ w', From (w.alloc (.cells (encKI .u32 p).toArray 49)) w' → RowC w' w.heap.size 0 (encK p.1) := fun w' hC => hb.ki_key.below hC.below (by simp)
  have hi : ∀ w', From (w.alloc (.cells (encKI .u32 p).toArray 49)) w' → w'.cell? ⟨w.heap.size, 32, none⟩ = some (.int .u32 p.2.1) := fun w' hC => (hC.below.cell (by simp)).trans hb.ki_int
  have HK := Lib.hid hk
  have HI := Lib.hid hi
  clear hb hk hi
  have hadd : ∀ V, (Op.stringOp .add ⟨p.1.1.toArray⟩ ⟨(putL p.2.1.toNat 4).toArray⟩).run Try.prog V = .ok (.string ⟨(ptB p).toArray⟩) V := fun V => run_string_add_lists V _ _ (by rw [p.1.2]; decide) (by rw [putL_len]; decide)
  go_enter Try.func63, Try.ntmps63
  go_wp2_with fail
  refine wp_region_from (by kernel_rfl) (by kernel_rfl) ?_
  repeat (first
    | ((with_reducible refine at_qload 3 ?_); refine tyKy.wpQuiet_load (by rfl) (.tmp 3) rfl w.heap.size 0 rfl p.1 HK.out ?_; simp only [Act.put, List.setIfInBounds_toArray, List.set_cons_succ, List.set_cons_zero])
    | ((with_reducible refine at_qload 6 ?_); refine wpQuiet_load_one (by rfl) 25 (.tmp 6) rfl ⟨w.heap.size, 32, none⟩ rfl (.int .u32 p.2.1) Try.isAgg25 HI.out ?_; simp only [Act.put, List.setIfInBounds_toArray, List.set_cons_succ, List.set_cons_zero])
    | (go_big_quiet_want; go_big_quiet_op; refine ⟨_, fun _ _ => by with_reducible rfl, ?_⟩; go_big_quiet_on)
    | go_big_quiet_step ((intro hC; first
        | (go_at_call 41; with_reducible exact (bytesK_any p.1 _).mono fun _ _ h => ⟨h.1, hC.call h.2⟩)
        | (go_at_call 60; with_reducible exact (number_any p.2 _).mono fun _ _ h => ⟨h.1, hC.call h.2⟩))))
  refine wpQuiet_nil ?_
  intro w9 hC
  go_wp2_with fail
  go_ret
  exact ⟨rfl, ((Below.refl _ _).alloc (Nat.le_refl _) _).trans (hC.below.mono (by simp))⟩
theorem out_any (p : IntV .i64 × K32) (w : World) :
    Calls Try.prog 66 #[.agg (encIK .i64 p).toArray] w fun e w' => e = .returned (.string ⟨(outB p).toArray⟩) ∧ Below w.heap.size w w' := by
  have hb : RowC (w.alloc (.cells (encIK .i64 p).toArray 92)) w.heap.size 0 (encIK .i64 p) := RowC.of_blk (Blk.new _ _ _)
  have hk : ∀ w', From (w.alloc (.cells (encIK .i64 p).toArray 92)) w' → RowC w' w.heap.size 1 (encK p.2) := fun w' hC => by have := hb.ik_key.below hC.below (by simp); rwa [Nat.zero_add] at this
  have hi : ∀ w', From (w.alloc (.cells (encIK .i64 p).toArray 92)) w' → w'.cell? ⟨w.heap.size, 0, none⟩ = some (.int .i64 p.1.1) := fun w' hC => (hC.below.cell (by simp)).trans hb.ik_int
  have HK := Lib.hid hk
  have HI := Lib.hid hi
  clear hb hk hi
  have hadd : ∀ V, (Op.stringOp .add ⟨(putL (ofI64 p.1) 8).toArray⟩ ⟨p.2.1.toArray⟩).run Try.prog V = .ok (.string ⟨(outB p).toArray⟩) V := fun V => run_string_add_lists V _ _ (by rw [putL_len]; decide) (by rw [p.2.2]; decide)
  go_enter Try.func66, Try.ntmps66
  go_wp2_with fail
  refine wp_region_from (by kernel_rfl) (by kernel_rfl) ?_
  repeat (first
    | ((with_reducible refine at_qload 3 ?_); refine wpQuiet_load_one (by rfl) 2 (.tmp 3) rfl ⟨w.heap.size, 0, none⟩ rfl (.int .i64 p.1.1) Try.isAgg2 HI.out ?_; simp only [Act.put, List.setIfInBounds_toArray, List.set_cons_succ, List.set_cons_zero])
    | ((with_reducible refine at_qload 6 ?_); refine tyKy.wpQuiet_load (by rfl) (.tmp 6) rfl w.heap.size 1 rfl p.2 HK.out ?_; simp only [Act.put, List.setIfInBounds_toArray, List.set_cons_succ, List.set_cons_zero])
    | (go_big_quiet_want; go_big_quiet_op; refine ⟨_, fun _ _ => by with_reducible rfl, ?_⟩; go_big_quiet_on)
    | go_big_quiet_step ((intro hC; first
        | (go_at_call 41; with_reducible exact (bytesK_any p.2 _).mono fun _ _ h => ⟨h.1, hC.call h.2⟩)
        | (go_at_call 69; with_reducible exact (amount_any p.1 _).mono fun _ _ h => ⟨h.1, hC.call h.2⟩))))
  refine wpQuiet_nil ?_
  intro w9 hC
  go_wp2_with fail
  go_ret
  exact ⟨rfl, ((Below.refl _ _).alloc (Nat.le_refl _) _).trans (hC.below.mono (by simp))⟩
end Go.Proofs.Ythpnmmilioonhaa
