/- tx.Encode. Written by genE.py. -/
import Derived.Test.YthpnmmilioonhaaTxJ
import Derived.Test.YthpnmmilioonhaaGenA
namespace Go.Proofs.Ythpnmmilioonhaa
open Go.RowKit
def encV (r : List UInt8 × Int) : Value := .tuple #[.string ⟨r.1.toArray⟩, .int .i64 r.2]
theorem run_max4 {P : Program} (ts : Array TypeId) (t : TypeId) (a b c d : Nat) (w : World) :
    (Builtin.max_ ts t #[.int .i64 a, .int .i64 b, .int .i64 c, .int .i64 d]).run P w = .ok (.int .i64 ((max a (max b (max c d)) : Nat) : Int)) w := by
  have h : ∀ x y : Nat, (if x < y then (y : Int) else (x : Int)) = ((max x y : Nat) : Int) := fun x y => by split <;> omega
  simp [Builtin.max_, Builtin.max2]
  simp only [h, Int.ofNat_lt]
  omega
theorem lit32k : (#[Value.int .u8 0, Value.int .u8 0, Value.int .u8 0, Value.int .u8 0, Value.int .u8 0, Value.int .u8 0, Value.int .u8 0, Value.int .u8 0, Value.int .u8 0, Value.int .u8 0, Value.int .u8 0, Value.int .u8 0, Value.int .u8 0, Value.int .u8 0, Value.int .u8 0, Value.int .u8 0, Value.int .u8 0, Value.int .u8 0, Value.int .u8 0, Value.int .u8 0, Value.int .u8 0, Value.int .u8 0, Value.int .u8 0, Value.int .u8 0, Value.int .u8 0, Value.int .u8 0, Value.int .u8 0, Value.int .u8 0, Value.int .u8 0, Value.int .u8 0, Value.int .u8 0, Value.int .u8 0] : Array Value) = (encK zeroKey).toArray := by kernel_rfl
theorem eqKy_run (a b : K32) (V : World) : (Op.equal 24 (.agg (encK a).toArray) (.agg (encK b).toArray)).run Try.prog V = .ok (decide (a = b)) V := by
  rw [encK_arr, encK_arr]
  refine (run_eq_bytes V Try.underlying24 Try.underlying5 (by kernel_rfl) a.1 b.1 a.2 b.2).trans ?_
  congr 1
  rw [decide_eq_decide]
  exact ⟨fun h => Subtype.ext h, fun h => h ▸ rfl⟩
theorem putL_one (n w : Nat) : (putL n w).length ≤ 100000 ↔ w ≤ 100000 := by rw [putL_len]
theorem cmpL_le (n : Nat) : (cmpL n).length ≤ 9 := by rw [cmpL_len]; unfold wdN; split <;> (try split) <;> (try split) <;> omega
theorem encF_arg (T : TxV) (hx : T.ins.length ≤ 40 ∧ T.outs.length ≤ 40 ∧ T.nulls.length ≤ 40 ∧ T.notes.length ≤ 40) (h0 : T.nulls.length = 0) (ha : T.anchor ≠ zeroKey) : encF T = ([], 1) := by
  unfold encF
  rw [if_neg (by omega), if_pos ⟨h0, ha⟩]
theorem encF_fit (T : TxV) (hx : T.ins.length ≤ 40 ∧ T.outs.length ≤ 40 ∧ T.nulls.length ≤ 40 ∧ T.notes.length ≤ 40) (ha : T.nulls.length = 0 → T.anchor = zeroKey) : encF T = (txB T, 0) := encF_ok T ⟨hx.1, hx.2.1, hx.2.2.1, hx.2.2.2, ha⟩
section
variable {T : TxV} {Ai Ao An At : Option Addr} {ci co cn ct : Nat}
set_option maxRecDepth 20000 in
theorem enc_many (w : World) (hx : 40 < T.ins.length ∨ 40 < T.outs.length ∨ 40 < T.nulls.length ∨ 40 < T.notes.length) :
    Calls Try.prog 45 #[.agg (txCells T Ai ci Ao co An cn At ct).toArray] w fun e w' => e = .returned (encV (encF T)) ∧ Below w.heap.size w w' := by
  rw [show encF T = ([], 51) by unfold encF; rw [if_pos hx]]
  have hb : RowC (w.alloc (.cells (txCells T Ai ci Ao co An cn At ct).toArray 44)) w.heap.size 0 (txCells T Ai ci Ao co An cn At ct) := RowC.of_blk (Blk.new _ _ _)
  have c1 := tx_ins hb
  have c2 := tx_outs hb
  have c4 := tx_nulls hb
  have c5 := tx_notes hb
  clear hb
  simp only [Nat.zero_add] at c1 c2 c4 c5
  obtain ⟨m, hm⟩ : ∃ m : Nat, max T.ins.length (max T.outs.length (max T.nulls.length T.notes.length)) = m := ⟨_, rfl⟩
  have hmax : ∀ W ts t, (Builtin.max_ ts t #[.int .i64 T.ins.length, .int .i64 T.outs.length, .int .i64 T.nulls.length, .int .i64 T.notes.length]).run Try.prog W = .ok (.int .i64 (m : Int)) W := fun W ts t => hm ▸ run_max4 ts t _ _ _ _ W
  have hd : decide ((40 : Int) < m) = true := by simp; omega
  clear hm hx
  go_enter Try.func45, Try.ntmps45
  go_wp2
  go_ret2
  exact ⟨rfl, (Below.refl _ _).alloc (Nat.le_refl _) _⟩
set_option maxRecDepth 20000 in
theorem enc_arg (w : World) (h : TxIn w w.heap.size T Ai ci Ao co An cn At ct) (hx : T.ins.length ≤ 40 ∧ T.outs.length ≤ 40 ∧ T.nulls.length ≤ 40 ∧ T.notes.length ≤ 40) (h0 : T.nulls.length = 0) (ha : T.anchor ≠ zeroKey) :
    Calls Try.prog 45 #[.agg (txCells T Ai ci Ao co An cn At ct).toArray] w fun e w' => e = .returned (encV (encF T)) ∧ Below w.heap.size w w' := by
  rw [encF_arg T hx h0 ha]
  obtain ⟨r, hr⟩ : ∃ r, decide (T.anchor = zeroKey) = r := ⟨_, rfl⟩
  obtain rfl : r = false := by rw [← hr]; simpa using ha
  have HR := Lib.hid hr
  have hd0 : decide (0 < T.nulls.length) = false := by rw [h0]; rfl
  clear hr ha h0
  have hb : RowC (w.alloc (.cells (txCells T Ai ci Ao co An cn At ct).toArray 44)) w.heap.size 0 (txCells T Ai ci Ao co An cn At ct) := RowC.of_blk (Blk.new _ _ _)
  have c1 := tx_ins hb
  have c2 := tx_outs hb
  have c4 := tx_nulls hb
  have c5 := tx_notes hb
  have HK := Lib.hid (tx_anchor hb)
  have HB := Lib.hid hb
  clear hb
  simp only [Nat.zero_add] at c1 c2 c4 c5
  have HI := Lib.hid hx.1
  have HO := Lib.hid hx.2.1
  have HN := Lib.hid hx.2.2.1
  have HT := Lib.hid hx.2.2.2
  have LI := Lib.hid (show T.ins.length ≤ 1000000 by omega)
  have LO := Lib.hid (show T.outs.length ≤ 1000000 by omega)
  have LN := Lib.hid (show T.nulls.length ≤ 1000000 by omega)
  have LT := Lib.hid (show T.notes.length ≤ 1000000 by omega)
  have HH := Lib.hid h
  obtain ⟨m, hm⟩ : ∃ m : Nat, max T.ins.length (max T.outs.length (max T.nulls.length T.notes.length)) = m := ⟨_, rfl⟩
  have hmax : ∀ W ts t, (Builtin.max_ ts t #[.int .i64 T.ins.length, .int .i64 T.outs.length, .int .i64 T.nulls.length, .int .i64 T.notes.length]).run Try.prog W = .ok (.int .i64 (m : Int)) W := fun W ts t => hm ▸ run_max4 ts t _ _ _ _ W
  have hd : decide ((40 : Int) < m) = false := by simp; omega
  clear hm hx h
  clear HB HI HO HN HT LI LO LN LT HH
  obtain ⟨r, rfl⟩ : ∃ r, r = false := ⟨_, rfl⟩
  go_enter Try.func45, Try.ntmps45
  go_wp2_with (first
    | ((with_reducible refine at_load 26 ?_); refine tyKy.wpList_load rfl (.tmp 26) rfl w.heap.size 3 rfl T.anchor (by simpa using HK.out) ?_)
    | ((with_reducible refine at_neqlg 27 28 ?_); refine wpList_neq_rowg (by rfl) 24 24 (.tmp 27) (.tmp 28) rfl (encK T.anchor).toArray (encK zeroKey).toArray rfl (congrArg Value.agg lit32k) (by kernel_rfl) false (fun V => by rw [eqKy_run, HR.out]) ?_; simp only [Act.put, List.setIfInBounds_toArray, List.set_cons_succ, List.set_cons_zero, Bool.not_false]))
  go_ret2
  exact ⟨rfl, (Below.refl _ _).alloc (Nat.le_refl _) _⟩
set_option maxRecDepth 20000 in
set_option maxHeartbeats 2000000 in
theorem enc_none (w : World) (h : TxIn w w.heap.size T Ai ci Ao co An cn At ct) (hx : T.ins.length ≤ 40 ∧ T.outs.length ≤ 40 ∧ T.nulls.length ≤ 40 ∧ T.notes.length ≤ 40) (h0 : T.nulls.length = 0) (ha : T.anchor = zeroKey) :
    Calls Try.prog 45 #[.agg (txCells T Ai ci Ao co An cn At ct).toArray] w fun e w' => e = .returned (encV (encF T)) ∧ Below w.heap.size w w' := by
  rw [encF_fit T hx (fun _ => ha)]
  have hr : decide (T.anchor = zeroKey) = true := by simpa using ha
  have HR := Lib.hid hr
  have hd0 : decide (0 < T.nulls.length) = false := by rw [h0]; rfl
  have E0 : txB T = ((putL T.exp.1.toNat 4) ++ ((cmpL T.ins.length) ++ ((T.ins.flatMap ptB) ++ ((cmpL T.outs.length) ++ ((T.outs.flatMap outB) ++ ((cmpL T.nulls.length) ++ ((T.nulls.flatMap keyB) ++ ((cmpL T.notes.length) ++ ((T.notes.flatMap keyB) ++ (putL (ofI64 T.bal) 8)))))))))) := by
    have hk : ∀ l : List K32, l.flatMap (fun k => k.1) = l.flatMap keyB := fun _ => rfl
    unfold txB manyB nullB
    simp only [hk, h0, if_true, List.append_assoc, List.nil_append]
  clear hr ha
  have l0 : (putL T.exp.1.toNat 4).length ≤ 2000 := by rw [putL_len]; omega
  have b1 : (cmpL T.ins.length).length ≤ 2000 := Nat.le_trans (cmpL_le _) (by omega)
  have hadd1 : ∀ V, (Op.stringOp .add ⟨((putL T.exp.1.toNat 4)).toArray⟩ ⟨(cmpL T.ins.length).toArray⟩).run Try.prog V = .ok (.string ⟨(((putL T.exp.1.toNat 4) ++ (cmpL T.ins.length))).toArray⟩) V := fun V => run_string_add_lists V _ _ (by omega) (by omega)
  have l1 : (((putL T.exp.1.toNat 4) ++ (cmpL T.ins.length))).length ≤ 4000 := by
    have := l0
    simp only [List.length_append] at this ⊢
    omega
  have b2 : (T.ins.flatMap ptB).length ≤ 2000 := by rw [flat_len ptB 36 ptB_len]; omega
  have hadd2 : ∀ V, (Op.stringOp .add ⟨(((putL T.exp.1.toNat 4) ++ (cmpL T.ins.length))).toArray⟩ ⟨(T.ins.flatMap ptB).toArray⟩).run Try.prog V = .ok (.string ⟨(((putL T.exp.1.toNat 4) ++ ((cmpL T.ins.length) ++ (T.ins.flatMap ptB)))).toArray⟩) V := fun V => (run_string_add_lists V _ _ (by omega) (by omega)).trans (by simp only [List.append_assoc])
  have l2 : (((putL T.exp.1.toNat 4) ++ ((cmpL T.ins.length) ++ (T.ins.flatMap ptB)))).length ≤ 6000 := by
    have := l1
    simp only [List.length_append] at this ⊢
    omega
  have b3 : (cmpL T.outs.length).length ≤ 2000 := Nat.le_trans (cmpL_le _) (by omega)
  have hadd3 : ∀ V, (Op.stringOp .add ⟨(((putL T.exp.1.toNat 4) ++ ((cmpL T.ins.length) ++ (T.ins.flatMap ptB)))).toArray⟩ ⟨(cmpL T.outs.length).toArray⟩).run Try.prog V = .ok (.string ⟨(((putL T.exp.1.toNat 4) ++ ((cmpL T.ins.length) ++ ((T.ins.flatMap ptB) ++ (cmpL T.outs.length))))).toArray⟩) V := fun V => (run_string_add_lists V _ _ (by omega) (by omega)).trans (by simp only [List.append_assoc])
  have l3 : (((putL T.exp.1.toNat 4) ++ ((cmpL T.ins.length) ++ ((T.ins.flatMap ptB) ++ (cmpL T.outs.length))))).length ≤ 8000 := by
    have := l2
    simp only [List.length_append] at this ⊢
    omega
  have b4 : (T.outs.flatMap outB).length ≤ 2000 := by rw [flat_len outB 40 outB_len]; omega
  have hadd4 : ∀ V, (Op.stringOp .add ⟨(((putL T.exp.1.toNat 4) ++ ((cmpL T.ins.length) ++ ((T.ins.flatMap ptB) ++ (cmpL T.outs.length))))).toArray⟩ ⟨(T.outs.flatMap outB).toArray⟩).run Try.prog V = .ok (.string ⟨(((putL T.exp.1.toNat 4) ++ ((cmpL T.ins.length) ++ ((T.ins.flatMap ptB) ++ ((cmpL T.outs.length) ++ (T.outs.flatMap outB)))))).toArray⟩) V := fun V => (run_string_add_lists V _ _ (by omega) (by omega)).trans (by simp only [List.append_assoc])
  have l4 : (((putL T.exp.1.toNat 4) ++ ((cmpL T.ins.length) ++ ((T.ins.flatMap ptB) ++ ((cmpL T.outs.length) ++ (T.outs.flatMap outB)))))).length ≤ 10000 := by
    have := l3
    simp only [List.length_append] at this ⊢
    omega
  have b5 : (cmpL T.nulls.length).length ≤ 2000 := Nat.le_trans (cmpL_le _) (by omega)
  have hadd5 : ∀ V, (Op.stringOp .add ⟨(((putL T.exp.1.toNat 4) ++ ((cmpL T.ins.length) ++ ((T.ins.flatMap ptB) ++ ((cmpL T.outs.length) ++ (T.outs.flatMap outB)))))).toArray⟩ ⟨(cmpL T.nulls.length).toArray⟩).run Try.prog V = .ok (.string ⟨(((putL T.exp.1.toNat 4) ++ ((cmpL T.ins.length) ++ ((T.ins.flatMap ptB) ++ ((cmpL T.outs.length) ++ ((T.outs.flatMap outB) ++ (cmpL T.nulls.length))))))).toArray⟩) V := fun V => (run_string_add_lists V _ _ (by omega) (by omega)).trans (by simp only [List.append_assoc])
  have l5 : (((putL T.exp.1.toNat 4) ++ ((cmpL T.ins.length) ++ ((T.ins.flatMap ptB) ++ ((cmpL T.outs.length) ++ ((T.outs.flatMap outB) ++ (cmpL T.nulls.length))))))).length ≤ 12000 := by
    have := l4
    simp only [List.length_append] at this ⊢
    omega
  have hadd6 : ∀ V, (Op.stringOp .add ⟨(((putL T.exp.1.toNat 4) ++ ((cmpL T.ins.length) ++ ((T.ins.flatMap ptB) ++ ((cmpL T.outs.length) ++ ((T.outs.flatMap outB) ++ (cmpL T.nulls.length))))))).toArray⟩ ⟨#[]⟩).run Try.prog V = .ok (.string ⟨(((putL T.exp.1.toNat 4) ++ ((cmpL T.ins.length) ++ ((T.ins.flatMap ptB) ++ ((cmpL T.outs.length) ++ ((T.outs.flatMap outB) ++ (cmpL T.nulls.length))))))).toArray⟩) V := fun V => (run_string_add_lists V _ [] (by omega) (by simp)).trans (by simp only [List.append_nil])
  have l6 := l5
  have b6 := l5
  have b7 : (T.nulls.flatMap keyB).length ≤ 2000 := by rw [flat_len keyB 32 keyB_len]; omega
  have hadd7 : ∀ V, (Op.stringOp .add ⟨(((putL T.exp.1.toNat 4) ++ ((cmpL T.ins.length) ++ ((T.ins.flatMap ptB) ++ ((cmpL T.outs.length) ++ ((T.outs.flatMap outB) ++ (cmpL T.nulls.length))))))).toArray⟩ ⟨(T.nulls.flatMap keyB).toArray⟩).run Try.prog V = .ok (.string ⟨(((putL T.exp.1.toNat 4) ++ ((cmpL T.ins.length) ++ ((T.ins.flatMap ptB) ++ ((cmpL T.outs.length) ++ ((T.outs.flatMap outB) ++ ((cmpL T.nulls.length) ++ (T.nulls.flatMap keyB)))))))).toArray⟩) V := fun V => (run_string_add_lists V _ _ (by omega) (by omega)).trans (by simp only [List.append_assoc])
  have l7 : (((putL T.exp.1.toNat 4) ++ ((cmpL T.ins.length) ++ ((T.ins.flatMap ptB) ++ ((cmpL T.outs.length) ++ ((T.outs.flatMap outB) ++ ((cmpL T.nulls.length) ++ (T.nulls.flatMap keyB)))))))).length ≤ 14000 := by
    have := l6
    simp only [List.length_append] at this ⊢
    omega
  have b8 : (cmpL T.notes.length).length ≤ 2000 := Nat.le_trans (cmpL_le _) (by omega)
  have hadd8 : ∀ V, (Op.stringOp .add ⟨(((putL T.exp.1.toNat 4) ++ ((cmpL T.ins.length) ++ ((T.ins.flatMap ptB) ++ ((cmpL T.outs.length) ++ ((T.outs.flatMap outB) ++ ((cmpL T.nulls.length) ++ (T.nulls.flatMap keyB)))))))).toArray⟩ ⟨(cmpL T.notes.length).toArray⟩).run Try.prog V = .ok (.string ⟨(((putL T.exp.1.toNat 4) ++ ((cmpL T.ins.length) ++ ((T.ins.flatMap ptB) ++ ((cmpL T.outs.length) ++ ((T.outs.flatMap outB) ++ ((cmpL T.nulls.length) ++ ((T.nulls.flatMap keyB) ++ (cmpL T.notes.length))))))))).toArray⟩) V := fun V => (run_string_add_lists V _ _ (by omega) (by omega)).trans (by simp only [List.append_assoc])
  have l8 : (((putL T.exp.1.toNat 4) ++ ((cmpL T.ins.length) ++ ((T.ins.flatMap ptB) ++ ((cmpL T.outs.length) ++ ((T.outs.flatMap outB) ++ ((cmpL T.nulls.length) ++ ((T.nulls.flatMap keyB) ++ (cmpL T.notes.length))))))))).length ≤ 16000 := by
    have := l7
    simp only [List.length_append] at this ⊢
    omega
  have b9 : (T.notes.flatMap keyB).length ≤ 2000 := by rw [flat_len keyB 32 keyB_len]; omega
  have hadd9 : ∀ V, (Op.stringOp .add ⟨(((putL T.exp.1.toNat 4) ++ ((cmpL T.ins.length) ++ ((T.ins.flatMap ptB) ++ ((cmpL T.outs.length) ++ ((T.outs.flatMap outB) ++ ((cmpL T.nulls.length) ++ ((T.nulls.flatMap keyB) ++ (cmpL T.notes.length))))))))).toArray⟩ ⟨(T.notes.flatMap keyB).toArray⟩).run Try.prog V = .ok (.string ⟨(((putL T.exp.1.toNat 4) ++ ((cmpL T.ins.length) ++ ((T.ins.flatMap ptB) ++ ((cmpL T.outs.length) ++ ((T.outs.flatMap outB) ++ ((cmpL T.nulls.length) ++ ((T.nulls.flatMap keyB) ++ ((cmpL T.notes.length) ++ (T.notes.flatMap keyB)))))))))).toArray⟩) V := fun V => (run_string_add_lists V _ _ (by omega) (by omega)).trans (by simp only [List.append_assoc])
  have l9 : (((putL T.exp.1.toNat 4) ++ ((cmpL T.ins.length) ++ ((T.ins.flatMap ptB) ++ ((cmpL T.outs.length) ++ ((T.outs.flatMap outB) ++ ((cmpL T.nulls.length) ++ ((T.nulls.flatMap keyB) ++ ((cmpL T.notes.length) ++ (T.notes.flatMap keyB)))))))))).length ≤ 18000 := by
    have := l8
    simp only [List.length_append] at this ⊢
    omega
  have b10 : (putL (ofI64 T.bal) 8).length ≤ 2000 := by rw [putL_len]; omega
  have hadd10 : ∀ V, (Op.stringOp .add ⟨(((putL T.exp.1.toNat 4) ++ ((cmpL T.ins.length) ++ ((T.ins.flatMap ptB) ++ ((cmpL T.outs.length) ++ ((T.outs.flatMap outB) ++ ((cmpL T.nulls.length) ++ ((T.nulls.flatMap keyB) ++ ((cmpL T.notes.length) ++ (T.notes.flatMap keyB)))))))))).toArray⟩ ⟨(putL (ofI64 T.bal) 8).toArray⟩).run Try.prog V = .ok (.string ⟨(((putL T.exp.1.toNat 4) ++ ((cmpL T.ins.length) ++ ((T.ins.flatMap ptB) ++ ((cmpL T.outs.length) ++ ((T.outs.flatMap outB) ++ ((cmpL T.nulls.length) ++ ((T.nulls.flatMap keyB) ++ ((cmpL T.notes.length) ++ ((T.notes.flatMap keyB) ++ (putL (ofI64 T.bal) 8))))))))))).toArray⟩) V := fun V => (run_string_add_lists V _ _ (by omega) (by omega)).trans (by simp only [List.append_assoc])
  have l10 : (((putL T.exp.1.toNat 4) ++ ((cmpL T.ins.length) ++ ((T.ins.flatMap ptB) ++ ((cmpL T.outs.length) ++ ((T.outs.flatMap outB) ++ ((cmpL T.nulls.length) ++ ((T.nulls.flatMap keyB) ++ ((cmpL T.notes.length) ++ ((T.notes.flatMap keyB) ++ (putL (ofI64 T.bal) 8))))))))))).length ≤ 20000 := by
    have := l9
    simp only [List.length_append] at this ⊢
    omega
  clear l0 l1 l2 l3 l4 l5 l6 l7 l8 l9 l10 b1 b2 b3 b4 b5 b6 b7 b8 b9 b10
  have HZ := Lib.hid h0
  clear h0
  have HE := Lib.hid E0
  clear E0
  have hb : RowC (w.alloc (.cells (txCells T Ai ci Ao co An cn At ct).toArray 44)) w.heap.size 0 (txCells T Ai ci Ao co An cn At ct) := RowC.of_blk (Blk.new _ _ _)
  have c1 := tx_ins hb
  have c2 := tx_outs hb
  have c4 := tx_nulls hb
  have c5 := tx_notes hb
  have HK := Lib.hid (tx_anchor hb)
  have HB := Lib.hid hb
  clear hb
  simp only [Nat.zero_add] at c1 c2 c4 c5
  have HI := Lib.hid hx.1
  have HO := Lib.hid hx.2.1
  have HN := Lib.hid hx.2.2.1
  have HT := Lib.hid hx.2.2.2
  have LI := Lib.hid (show T.ins.length ≤ 1000000 by omega)
  have LO := Lib.hid (show T.outs.length ≤ 1000000 by omega)
  have LN := Lib.hid (show T.nulls.length ≤ 1000000 by omega)
  have LT := Lib.hid (show T.notes.length ≤ 1000000 by omega)
  have HH := Lib.hid h
  obtain ⟨m, hm⟩ : ∃ m : Nat, max T.ins.length (max T.outs.length (max T.nulls.length T.notes.length)) = m := ⟨_, rfl⟩
  have hmax : ∀ W ts t, (Builtin.max_ ts t #[.int .i64 T.ins.length, .int .i64 T.outs.length, .int .i64 T.nulls.length, .int .i64 T.notes.length]).run Try.prog W = .ok (.int .i64 (m : Int)) W := fun W ts t => hm ▸ run_max4 ts t _ _ _ _ W
  have hd : decide ((40 : Int) < m) = false := by simp; omega
  clear hm hx h
  have LB : ∀ w', From (w.alloc (.cells (txCells T Ai ci Ao co An cn At ct).toArray 44)) w' → Below w.heap.size w w' := fun w' hC => ((Below.refl _ _).alloc (Nat.le_refl _) _).trans (hC.below.mono (by simp))
  have LR : ∀ w', From (w.alloc (.cells (txCells T Ai ci Ao co An cn At ct).toArray 44)) w' → RowC w' w.heap.size 0 (txCells T Ai ci Ao co An cn At ct) := fun w' hC => HB.out.below hC.below (by simp)
  have Cexp := Lib.hid (fun (w' : World) (hC : From (w.alloc (.cells (txCells T Ai ci Ao co An cn At ct).toArray 44)) w') => (show w'.cell? ⟨w.heap.size, 0, none⟩ = some (.int .u32 T.exp.1) from by simpa using tx_exp (LR w' hC)))
  have Cins := Lib.hid (fun (w' : World) (hC : From (w.alloc (.cells (txCells T Ai ci Ao co An cn At ct).toArray 44)) w') => (show w'.cell? ⟨w.heap.size, 1, none⟩ = some (.slice Ai T.ins.length ci) from by simpa using tx_ins (LR w' hC)))
  have Couts := Lib.hid (fun (w' : World) (hC : From (w.alloc (.cells (txCells T Ai ci Ao co An cn At ct).toArray 44)) w') => (show w'.cell? ⟨w.heap.size, 2, none⟩ = some (.slice Ao T.outs.length co) from by simpa using tx_outs (LR w' hC)))
  have Cnulls := Lib.hid (fun (w' : World) (hC : From (w.alloc (.cells (txCells T Ai ci Ao co An cn At ct).toArray 44)) w') => (show w'.cell? ⟨w.heap.size, 35, none⟩ = some (.slice An T.nulls.length cn) from by simpa using tx_nulls (LR w' hC)))
  have Cnotes := Lib.hid (fun (w' : World) (hC : From (w.alloc (.cells (txCells T Ai ci Ao co An cn At ct).toArray 44)) w') => (show w'.cell? ⟨w.heap.size, 36, none⟩ = some (.slice At T.notes.length ct) from by simpa using tx_notes (LR w' hC)))
  have Cbal := Lib.hid (fun (w' : World) (hC : From (w.alloc (.cells (txCells T Ai ci Ao co An cn At ct).toArray 44)) w') => (show w'.cell? ⟨w.heap.size, 37, none⟩ = some (.int .i64 T.bal.1) from by simpa using tx_bal (LR w' hC)))
  have RI := Lib.hid (fun (w' : World) (hC : From (w.alloc (.cells (txCells T Ai ci Ao co An cn At ct).toArray 44)) w') => (HH.out.ins.below (LB w' hC)).more (LB w' hC).size)
  have RO := Lib.hid (fun (w' : World) (hC : From (w.alloc (.cells (txCells T Ai ci Ao co An cn At ct).toArray 44)) w') => (HH.out.outs.below (LB w' hC)).more (LB w' hC).size)
  have RN := Lib.hid (fun (w' : World) (hC : From (w.alloc (.cells (txCells T Ai ci Ao co An cn At ct).toArray 44)) w') => (HH.out.nulls.below (LB w' hC)).more (LB w' hC).size)
  have RT := Lib.hid (fun (w' : World) (hC : From (w.alloc (.cells (txCells T Ai ci Ao co An cn At ct).toArray 44)) w') => (HH.out.notes.below (LB w' hC)).more (LB w' hC).size)
  have HLB := Lib.hid LB
  clear LB LR
  go_enter Try.func45, Try.ntmps45
  go_wp2_with (first
    | ((with_reducible refine at_load 26 ?_); refine tyKy.wpList_load rfl (.tmp 26) rfl w.heap.size 3 rfl T.anchor (by simpa using HK.out) ?_)
    | ((with_reducible refine at_neqlg 27 28 ?_); refine wpList_neq_rowg (by rfl) 24 24 (.tmp 27) (.tmp 28) rfl (encK T.anchor).toArray (encK zeroKey).toArray rfl (congrArg Value.agg lit32k) (by kernel_rfl) true (fun V => by rw [eqKy_run, HR.out]) ?_; simp only [Act.put, List.setIfInBounds_toArray, List.set_cons_succ, List.set_cons_zero, Bool.not_true]))
  clear c1 c2 c4 c5
  refine wp_region_from (by kernel_rfl) (by kernel_rfl) ?_
  repeat (first
    | ((with_reducible refine at_qload 30 ?_); refine wpQuiet_load_one (by rfl) 25 (.tmp 30) rfl ⟨w.heap.size, 0, none⟩ rfl (.int .u32 T.exp.1) Try.isAgg25 Cexp.out ?_; simp only [Act.put, List.setIfInBounds_toArray, List.set_cons_succ, List.set_cons_zero])
    | ((with_reducible refine at_qload 33 ?_); refine wpQuiet_load_one (by rfl) 40 (.tmp 33) rfl ⟨w.heap.size, 1, none⟩ rfl (.slice Ai T.ins.length ci) Try.isAgg40 Cins.out ?_; simp only [Act.put, List.setIfInBounds_toArray, List.set_cons_succ, List.set_cons_zero])
    | ((with_reducible refine at_qload 37 ?_); refine wpQuiet_load_one (by rfl) 40 (.tmp 37) rfl ⟨w.heap.size, 1, none⟩ rfl (.slice Ai T.ins.length ci) Try.isAgg40 Cins.out ?_; simp only [Act.put, List.setIfInBounds_toArray, List.set_cons_succ, List.set_cons_zero])
    | ((with_reducible refine at_qload 41 ?_); refine wpQuiet_load_one (by rfl) 41 (.tmp 41) rfl ⟨w.heap.size, 2, none⟩ rfl (.slice Ao T.outs.length co) Try.isAgg41 Couts.out ?_; simp only [Act.put, List.setIfInBounds_toArray, List.set_cons_succ, List.set_cons_zero])
    | ((with_reducible refine at_qload 45 ?_); refine wpQuiet_load_one (by rfl) 41 (.tmp 45) rfl ⟨w.heap.size, 2, none⟩ rfl (.slice Ao T.outs.length co) Try.isAgg41 Couts.out ?_; simp only [Act.put, List.setIfInBounds_toArray, List.set_cons_succ, List.set_cons_zero])
    | ((with_reducible refine at_qload 49 ?_); refine wpQuiet_load_one (by rfl) 42 (.tmp 49) rfl ⟨w.heap.size, 35, none⟩ rfl (.slice An T.nulls.length cn) Try.isAgg42 Cnulls.out ?_; simp only [Act.put, List.setIfInBounds_toArray, List.set_cons_succ, List.set_cons_zero])
    | ((with_reducible refine at_qload 55 ?_); refine wpQuiet_load_one (by rfl) 42 (.tmp 55) rfl ⟨w.heap.size, 35, none⟩ rfl (.slice An T.nulls.length cn) Try.isAgg42 Cnulls.out ?_; simp only [Act.put, List.setIfInBounds_toArray, List.set_cons_succ, List.set_cons_zero])
    | ((with_reducible refine at_qload 59 ?_); refine wpQuiet_load_one (by rfl) 42 (.tmp 59) rfl ⟨w.heap.size, 36, none⟩ rfl (.slice At T.notes.length ct) Try.isAgg42 Cnotes.out ?_; simp only [Act.put, List.setIfInBounds_toArray, List.set_cons_succ, List.set_cons_zero])
    | ((with_reducible refine at_qload 63 ?_); refine wpQuiet_load_one (by rfl) 42 (.tmp 63) rfl ⟨w.heap.size, 36, none⟩ rfl (.slice At T.notes.length ct) Try.isAgg42 Cnotes.out ?_; simp only [Act.put, List.setIfInBounds_toArray, List.set_cons_succ, List.set_cons_zero])
    | ((with_reducible refine at_qload 67 ?_); refine wpQuiet_load_one (by rfl) 2 (.tmp 67) rfl ⟨w.heap.size, 37, none⟩ rfl (.int .i64 T.bal.1) Try.isAgg2 Cbal.out ?_; simp only [Act.put, List.setIfInBounds_toArray, List.set_cons_succ, List.set_cons_zero])
    | (go_big_quiet_want; go_big_quiet_op; refine ⟨_, fun _ _ => by with_reducible rfl, ?_⟩; go_big_quiet_on)
    | go_big_quiet_step ((intro hC; first
        | (go_at_call 60; with_reducible exact (number_any T.exp _).mono fun _ _ h => ⟨h.1, hC.call h.2⟩)
        | (go_at_call 61; with_reducible exact (countPt_any Ai T.ins.length ci LI.out _).mono fun _ _ h => ⟨h.1, hC.call h.2⟩)
        | (go_at_call 62; with_reducible exact (joinPt_any Ai ci T.ins _ (RI.out _ hC) (by have := HI.out; omega)).mono fun _ _ h => ⟨h.1, hC.call h.2⟩)
        | (go_at_call 64; with_reducible exact (countOut_any Ao T.outs.length co LO.out _).mono fun _ _ h => ⟨h.1, hC.call h.2⟩)
        | (go_at_call 65; with_reducible exact (joinOut_any Ao co T.outs _ (RO.out _ hC) (by have := HO.out; omega)).mono fun _ _ h => ⟨h.1, hC.call h.2⟩)
        | (go_at_call 67; with_reducible exact (countKey_any An T.nulls.length cn LN.out _).mono fun _ _ h => ⟨h.1, hC.call h.2⟩)
        | (go_at_call 67; with_reducible exact (countKey_any At T.notes.length ct LT.out _).mono fun _ _ h => ⟨h.1, hC.call h.2⟩)
        | (go_at_call 68; with_reducible exact (joinKey_any An cn T.nulls _ (RN.out _ hC) (by have := HN.out; omega)).mono fun _ _ h => ⟨h.1, hC.call h.2⟩)
        | (go_at_call 68; with_reducible exact (joinKey_any At ct T.notes _ (RT.out _ hC) (by have := HT.out; omega)).mono fun _ _ h => ⟨h.1, hC.call h.2⟩)
        | (go_at_call 69; with_reducible exact (amount_any T.bal _).mono fun _ _ h => ⟨h.1, hC.call h.2⟩))))
  refine wpQuiet_nil ?_
  intro w9 hC
  go_wp2_with fail
  go_ret2
  rw [HE.out]
  exact ⟨rfl, HLB.out _ hC⟩
set_option maxRecDepth 20000 in
set_option maxHeartbeats 2000000 in
theorem enc_some (w : World) (h : TxIn w w.heap.size T Ai ci Ao co An cn At ct) (hx : T.ins.length ≤ 40 ∧ T.outs.length ≤ 40 ∧ T.nulls.length ≤ 40 ∧ T.notes.length ≤ 40) (h0 : 0 < T.nulls.length) :
    Calls Try.prog 45 #[.agg (txCells T Ai ci Ao co An cn At ct).toArray] w fun e w' => e = .returned (encV (encF T)) ∧ Below w.heap.size w w' := by
  rw [encF_fit T hx (fun q => by omega)]
  have hd0 : decide (0 < T.nulls.length) = true := by simp only [decide_eq_true_iff]; exact h0
  have E0 : txB T = ((putL T.exp.1.toNat 4) ++ ((cmpL T.ins.length) ++ ((T.ins.flatMap ptB) ++ ((cmpL T.outs.length) ++ ((T.outs.flatMap outB) ++ ((cmpL T.nulls.length) ++ ((T.anchor.1) ++ ((T.nulls.flatMap keyB) ++ ((cmpL T.notes.length) ++ ((T.notes.flatMap keyB) ++ (putL (ofI64 T.bal) 8))))))))))) := by
    have hk : ∀ l : List K32, l.flatMap (fun k => k.1) = l.flatMap keyB := fun _ => rfl
    have hz : ¬ T.nulls.length = 0 := by omega
    unfold txB manyB nullB
    simp only [hk, if_neg hz, List.append_assoc]
  clear h0
  have l0 : (putL T.exp.1.toNat 4).length ≤ 2000 := by rw [putL_len]; omega
  have b1 : (cmpL T.ins.length).length ≤ 2000 := Nat.le_trans (cmpL_le _) (by omega)
  have hadd1 : ∀ V, (Op.stringOp .add ⟨((putL T.exp.1.toNat 4)).toArray⟩ ⟨(cmpL T.ins.length).toArray⟩).run Try.prog V = .ok (.string ⟨(((putL T.exp.1.toNat 4) ++ (cmpL T.ins.length))).toArray⟩) V := fun V => run_string_add_lists V _ _ (by omega) (by omega)
  have l1 : (((putL T.exp.1.toNat 4) ++ (cmpL T.ins.length))).length ≤ 4000 := by
    have := l0
    simp only [List.length_append] at this ⊢
    omega
  have b2 : (T.ins.flatMap ptB).length ≤ 2000 := by rw [flat_len ptB 36 ptB_len]; omega
  have hadd2 : ∀ V, (Op.stringOp .add ⟨(((putL T.exp.1.toNat 4) ++ (cmpL T.ins.length))).toArray⟩ ⟨(T.ins.flatMap ptB).toArray⟩).run Try.prog V = .ok (.string ⟨(((putL T.exp.1.toNat 4) ++ ((cmpL T.ins.length) ++ (T.ins.flatMap ptB)))).toArray⟩) V := fun V => (run_string_add_lists V _ _ (by omega) (by omega)).trans (by simp only [List.append_assoc])
  have l2 : (((putL T.exp.1.toNat 4) ++ ((cmpL T.ins.length) ++ (T.ins.flatMap ptB)))).length ≤ 6000 := by
    have := l1
    simp only [List.length_append] at this ⊢
    omega
  have b3 : (cmpL T.outs.length).length ≤ 2000 := Nat.le_trans (cmpL_le _) (by omega)
  have hadd3 : ∀ V, (Op.stringOp .add ⟨(((putL T.exp.1.toNat 4) ++ ((cmpL T.ins.length) ++ (T.ins.flatMap ptB)))).toArray⟩ ⟨(cmpL T.outs.length).toArray⟩).run Try.prog V = .ok (.string ⟨(((putL T.exp.1.toNat 4) ++ ((cmpL T.ins.length) ++ ((T.ins.flatMap ptB) ++ (cmpL T.outs.length))))).toArray⟩) V := fun V => (run_string_add_lists V _ _ (by omega) (by omega)).trans (by simp only [List.append_assoc])
  have l3 : (((putL T.exp.1.toNat 4) ++ ((cmpL T.ins.length) ++ ((T.ins.flatMap ptB) ++ (cmpL T.outs.length))))).length ≤ 8000 := by
    have := l2
    simp only [List.length_append] at this ⊢
    omega
  have b4 : (T.outs.flatMap outB).length ≤ 2000 := by rw [flat_len outB 40 outB_len]; omega
  have hadd4 : ∀ V, (Op.stringOp .add ⟨(((putL T.exp.1.toNat 4) ++ ((cmpL T.ins.length) ++ ((T.ins.flatMap ptB) ++ (cmpL T.outs.length))))).toArray⟩ ⟨(T.outs.flatMap outB).toArray⟩).run Try.prog V = .ok (.string ⟨(((putL T.exp.1.toNat 4) ++ ((cmpL T.ins.length) ++ ((T.ins.flatMap ptB) ++ ((cmpL T.outs.length) ++ (T.outs.flatMap outB)))))).toArray⟩) V := fun V => (run_string_add_lists V _ _ (by omega) (by omega)).trans (by simp only [List.append_assoc])
  have l4 : (((putL T.exp.1.toNat 4) ++ ((cmpL T.ins.length) ++ ((T.ins.flatMap ptB) ++ ((cmpL T.outs.length) ++ (T.outs.flatMap outB)))))).length ≤ 10000 := by
    have := l3
    simp only [List.length_append] at this ⊢
    omega
  have b5 : (cmpL T.nulls.length).length ≤ 2000 := Nat.le_trans (cmpL_le _) (by omega)
  have hadd5 : ∀ V, (Op.stringOp .add ⟨(((putL T.exp.1.toNat 4) ++ ((cmpL T.ins.length) ++ ((T.ins.flatMap ptB) ++ ((cmpL T.outs.length) ++ (T.outs.flatMap outB)))))).toArray⟩ ⟨(cmpL T.nulls.length).toArray⟩).run Try.prog V = .ok (.string ⟨(((putL T.exp.1.toNat 4) ++ ((cmpL T.ins.length) ++ ((T.ins.flatMap ptB) ++ ((cmpL T.outs.length) ++ ((T.outs.flatMap outB) ++ (cmpL T.nulls.length))))))).toArray⟩) V := fun V => (run_string_add_lists V _ _ (by omega) (by omega)).trans (by simp only [List.append_assoc])
  have l5 : (((putL T.exp.1.toNat 4) ++ ((cmpL T.ins.length) ++ ((T.ins.flatMap ptB) ++ ((cmpL T.outs.length) ++ ((T.outs.flatMap outB) ++ (cmpL T.nulls.length))))))).length ≤ 12000 := by
    have := l4
    simp only [List.length_append] at this ⊢
    omega
  have b6 : (T.anchor.1).length ≤ 2000 := by rw [T.anchor.2]; omega
  have hadd6 : ∀ V, (Op.stringOp .add ⟨(((putL T.exp.1.toNat 4) ++ ((cmpL T.ins.length) ++ ((T.ins.flatMap ptB) ++ ((cmpL T.outs.length) ++ ((T.outs.flatMap outB) ++ (cmpL T.nulls.length))))))).toArray⟩ ⟨(T.anchor.1).toArray⟩).run Try.prog V = .ok (.string ⟨(((putL T.exp.1.toNat 4) ++ ((cmpL T.ins.length) ++ ((T.ins.flatMap ptB) ++ ((cmpL T.outs.length) ++ ((T.outs.flatMap outB) ++ ((cmpL T.nulls.length) ++ (T.anchor.1)))))))).toArray⟩) V := fun V => (run_string_add_lists V _ _ (by omega) (by omega)).trans (by simp only [List.append_assoc])
  have l6 : (((putL T.exp.1.toNat 4) ++ ((cmpL T.ins.length) ++ ((T.ins.flatMap ptB) ++ ((cmpL T.outs.length) ++ ((T.outs.flatMap outB) ++ ((cmpL T.nulls.length) ++ (T.anchor.1)))))))).length ≤ 14000 := by
    have := l5
    simp only [List.length_append] at this ⊢
    omega
  have b7 : (T.nulls.flatMap keyB).length ≤ 2000 := by rw [flat_len keyB 32 keyB_len]; omega
  have hadd7 : ∀ V, (Op.stringOp .add ⟨(((putL T.exp.1.toNat 4) ++ ((cmpL T.ins.length) ++ ((T.ins.flatMap ptB) ++ ((cmpL T.outs.length) ++ ((T.outs.flatMap outB) ++ ((cmpL T.nulls.length) ++ (T.anchor.1)))))))).toArray⟩ ⟨(T.nulls.flatMap keyB).toArray⟩).run Try.prog V = .ok (.string ⟨(((putL T.exp.1.toNat 4) ++ ((cmpL T.ins.length) ++ ((T.ins.flatMap ptB) ++ ((cmpL T.outs.length) ++ ((T.outs.flatMap outB) ++ ((cmpL T.nulls.length) ++ ((T.anchor.1) ++ (T.nulls.flatMap keyB))))))))).toArray⟩) V := fun V => (run_string_add_lists V _ _ (by omega) (by omega)).trans (by simp only [List.append_assoc])
  have l7 : (((putL T.exp.1.toNat 4) ++ ((cmpL T.ins.length) ++ ((T.ins.flatMap ptB) ++ ((cmpL T.outs.length) ++ ((T.outs.flatMap outB) ++ ((cmpL T.nulls.length) ++ ((T.anchor.1) ++ (T.nulls.flatMap keyB))))))))).length ≤ 16000 := by
    have := l6
    simp only [List.length_append] at this ⊢
    omega
  have b8 : (cmpL T.notes.length).length ≤ 2000 := Nat.le_trans (cmpL_le _) (by omega)
  have hadd8 : ∀ V, (Op.stringOp .add ⟨(((putL T.exp.1.toNat 4) ++ ((cmpL T.ins.length) ++ ((T.ins.flatMap ptB) ++ ((cmpL T.outs.length) ++ ((T.outs.flatMap outB) ++ ((cmpL T.nulls.length) ++ ((T.anchor.1) ++ (T.nulls.flatMap keyB))))))))).toArray⟩ ⟨(cmpL T.notes.length).toArray⟩).run Try.prog V = .ok (.string ⟨(((putL T.exp.1.toNat 4) ++ ((cmpL T.ins.length) ++ ((T.ins.flatMap ptB) ++ ((cmpL T.outs.length) ++ ((T.outs.flatMap outB) ++ ((cmpL T.nulls.length) ++ ((T.anchor.1) ++ ((T.nulls.flatMap keyB) ++ (cmpL T.notes.length)))))))))).toArray⟩) V := fun V => (run_string_add_lists V _ _ (by omega) (by omega)).trans (by simp only [List.append_assoc])
  have l8 : (((putL T.exp.1.toNat 4) ++ ((cmpL T.ins.length) ++ ((T.ins.flatMap ptB) ++ ((cmpL T.outs.length) ++ ((T.outs.flatMap outB) ++ ((cmpL T.nulls.length) ++ ((T.anchor.1) ++ ((T.nulls.flatMap keyB) ++ (cmpL T.notes.length)))))))))).length ≤ 18000 := by
    have := l7
    simp only [List.length_append] at this ⊢
    omega
  have b9 : (T.notes.flatMap keyB).length ≤ 2000 := by rw [flat_len keyB 32 keyB_len]; omega
  have hadd9 : ∀ V, (Op.stringOp .add ⟨(((putL T.exp.1.toNat 4) ++ ((cmpL T.ins.length) ++ ((T.ins.flatMap ptB) ++ ((cmpL T.outs.length) ++ ((T.outs.flatMap outB) ++ ((cmpL T.nulls.length) ++ ((T.anchor.1) ++ ((T.nulls.flatMap keyB) ++ (cmpL T.notes.length)))))))))).toArray⟩ ⟨(T.notes.flatMap keyB).toArray⟩).run Try.prog V = .ok (.string ⟨(((putL T.exp.1.toNat 4) ++ ((cmpL T.ins.length) ++ ((T.ins.flatMap ptB) ++ ((cmpL T.outs.length) ++ ((T.outs.flatMap outB) ++ ((cmpL T.nulls.length) ++ ((T.anchor.1) ++ ((T.nulls.flatMap keyB) ++ ((cmpL T.notes.length) ++ (T.notes.flatMap keyB))))))))))).toArray⟩) V := fun V => (run_string_add_lists V _ _ (by omega) (by omega)).trans (by simp only [List.append_assoc])
  have l9 : (((putL T.exp.1.toNat 4) ++ ((cmpL T.ins.length) ++ ((T.ins.flatMap ptB) ++ ((cmpL T.outs.length) ++ ((T.outs.flatMap outB) ++ ((cmpL T.nulls.length) ++ ((T.anchor.1) ++ ((T.nulls.flatMap keyB) ++ ((cmpL T.notes.length) ++ (T.notes.flatMap keyB))))))))))).length ≤ 20000 := by
    have := l8
    simp only [List.length_append] at this ⊢
    omega
  have b10 : (putL (ofI64 T.bal) 8).length ≤ 2000 := by rw [putL_len]; omega
  have hadd10 : ∀ V, (Op.stringOp .add ⟨(((putL T.exp.1.toNat 4) ++ ((cmpL T.ins.length) ++ ((T.ins.flatMap ptB) ++ ((cmpL T.outs.length) ++ ((T.outs.flatMap outB) ++ ((cmpL T.nulls.length) ++ ((T.anchor.1) ++ ((T.nulls.flatMap keyB) ++ ((cmpL T.notes.length) ++ (T.notes.flatMap keyB))))))))))).toArray⟩ ⟨(putL (ofI64 T.bal) 8).toArray⟩).run Try.prog V = .ok (.string ⟨(((putL T.exp.1.toNat 4) ++ ((cmpL T.ins.length) ++ ((T.ins.flatMap ptB) ++ ((cmpL T.outs.length) ++ ((T.outs.flatMap outB) ++ ((cmpL T.nulls.length) ++ ((T.anchor.1) ++ ((T.nulls.flatMap keyB) ++ ((cmpL T.notes.length) ++ ((T.notes.flatMap keyB) ++ (putL (ofI64 T.bal) 8)))))))))))).toArray⟩) V := fun V => (run_string_add_lists V _ _ (by omega) (by omega)).trans (by simp only [List.append_assoc])
  have l10 : (((putL T.exp.1.toNat 4) ++ ((cmpL T.ins.length) ++ ((T.ins.flatMap ptB) ++ ((cmpL T.outs.length) ++ ((T.outs.flatMap outB) ++ ((cmpL T.nulls.length) ++ ((T.anchor.1) ++ ((T.nulls.flatMap keyB) ++ ((cmpL T.notes.length) ++ ((T.notes.flatMap keyB) ++ (putL (ofI64 T.bal) 8)))))))))))).length ≤ 22000 := by
    have := l9
    simp only [List.length_append] at this ⊢
    omega
  clear l0 l1 l2 l3 l4 l5 l6 l7 l8 l9 l10 b1 b2 b3 b4 b5 b6 b7 b8 b9 b10
  have HE := Lib.hid E0
  clear E0
  have hb : RowC (w.alloc (.cells (txCells T Ai ci Ao co An cn At ct).toArray 44)) w.heap.size 0 (txCells T Ai ci Ao co An cn At ct) := RowC.of_blk (Blk.new _ _ _)
  have c1 := tx_ins hb
  have c2 := tx_outs hb
  have c4 := tx_nulls hb
  have c5 := tx_notes hb
  have HK := Lib.hid (tx_anchor hb)
  have HB := Lib.hid hb
  clear hb
  simp only [Nat.zero_add] at c1 c2 c4 c5
  have HI := Lib.hid hx.1
  have HO := Lib.hid hx.2.1
  have HN := Lib.hid hx.2.2.1
  have HT := Lib.hid hx.2.2.2
  have LI := Lib.hid (show T.ins.length ≤ 1000000 by omega)
  have LO := Lib.hid (show T.outs.length ≤ 1000000 by omega)
  have LN := Lib.hid (show T.nulls.length ≤ 1000000 by omega)
  have LT := Lib.hid (show T.notes.length ≤ 1000000 by omega)
  have HH := Lib.hid h
  obtain ⟨m, hm⟩ : ∃ m : Nat, max T.ins.length (max T.outs.length (max T.nulls.length T.notes.length)) = m := ⟨_, rfl⟩
  have hmax : ∀ W ts t, (Builtin.max_ ts t #[.int .i64 T.ins.length, .int .i64 T.outs.length, .int .i64 T.nulls.length, .int .i64 T.notes.length]).run Try.prog W = .ok (.int .i64 (m : Int)) W := fun W ts t => hm ▸ run_max4 ts t _ _ _ _ W
  have hd : decide ((40 : Int) < m) = false := by simp; omega
  clear hm hx h
  go_enter Try.func45, Try.ntmps45
  go_wp2_with ((with_reducible refine at_load 23 ?_); refine tyKy.wpList_load rfl (.tmp 23) rfl w.heap.size 3 rfl T.anchor (by simpa using HK.out) ?_)
  refine (bytesK_any T.anchor _).mono ?_
  rintro e w1 ⟨rfl, b1⟩
  have B1 : Below w.heap.size w w1 := ((Below.refl _ _).alloc (Nat.le_refl _) _).trans (b1.mono (by simp))
  have lt1 : w.heap.size < w1.heap.size := by have := b1.size; simp at this; omega
  have LB : ∀ w', From w1 w' → Below w.heap.size w w' := fun w' hC => B1.trans (hC.below.mono B1.size)
  have LR : ∀ w', From w1 w' → RowC w' w.heap.size 0 (txCells T Ai ci Ao co An cn At ct) := fun w' hC => (HB.out.below b1 (by simp)).below hC.below lt1
  have Cexp := Lib.hid (fun (w' : World) (hC : From w1 w') => (show w'.cell? ⟨w.heap.size, 0, none⟩ = some (.int .u32 T.exp.1) from by simpa using tx_exp (LR w' hC)))
  have Cins := Lib.hid (fun (w' : World) (hC : From w1 w') => (show w'.cell? ⟨w.heap.size, 1, none⟩ = some (.slice Ai T.ins.length ci) from by simpa using tx_ins (LR w' hC)))
  have Couts := Lib.hid (fun (w' : World) (hC : From w1 w') => (show w'.cell? ⟨w.heap.size, 2, none⟩ = some (.slice Ao T.outs.length co) from by simpa using tx_outs (LR w' hC)))
  have Cnulls := Lib.hid (fun (w' : World) (hC : From w1 w') => (show w'.cell? ⟨w.heap.size, 35, none⟩ = some (.slice An T.nulls.length cn) from by simpa using tx_nulls (LR w' hC)))
  have Cnotes := Lib.hid (fun (w' : World) (hC : From w1 w') => (show w'.cell? ⟨w.heap.size, 36, none⟩ = some (.slice At T.notes.length ct) from by simpa using tx_notes (LR w' hC)))
  have Cbal := Lib.hid (fun (w' : World) (hC : From w1 w') => (show w'.cell? ⟨w.heap.size, 37, none⟩ = some (.int .i64 T.bal.1) from by simpa using tx_bal (LR w' hC)))
  have RI := Lib.hid (fun (w' : World) (hC : From w1 w') => (HH.out.ins.below (LB w' hC)).more (LB w' hC).size)
  have RO := Lib.hid (fun (w' : World) (hC : From w1 w') => (HH.out.outs.below (LB w' hC)).more (LB w' hC).size)
  have RN := Lib.hid (fun (w' : World) (hC : From w1 w') => (HH.out.nulls.below (LB w' hC)).more (LB w' hC).size)
  have RT := Lib.hid (fun (w' : World) (hC : From w1 w') => (HH.out.notes.below (LB w' hC)).more (LB w' hC).size)
  have HLB := Lib.hid LB
  clear LB LR c1 c2 c4 c5 b1 B1 lt1 HB HK HH
  go_wp2_with fail
  refine wp_region_from (by kernel_rfl) (by kernel_rfl) ?_
  repeat (first
    | ((with_reducible refine at_qload 30 ?_); refine wpQuiet_load_one (by rfl) 25 (.tmp 30) rfl ⟨w.heap.size, 0, none⟩ rfl (.int .u32 T.exp.1) Try.isAgg25 Cexp.out ?_; simp only [Act.put, List.setIfInBounds_toArray, List.set_cons_succ, List.set_cons_zero])
    | ((with_reducible refine at_qload 33 ?_); refine wpQuiet_load_one (by rfl) 40 (.tmp 33) rfl ⟨w.heap.size, 1, none⟩ rfl (.slice Ai T.ins.length ci) Try.isAgg40 Cins.out ?_; simp only [Act.put, List.setIfInBounds_toArray, List.set_cons_succ, List.set_cons_zero])
    | ((with_reducible refine at_qload 37 ?_); refine wpQuiet_load_one (by rfl) 40 (.tmp 37) rfl ⟨w.heap.size, 1, none⟩ rfl (.slice Ai T.ins.length ci) Try.isAgg40 Cins.out ?_; simp only [Act.put, List.setIfInBounds_toArray, List.set_cons_succ, List.set_cons_zero])
    | ((with_reducible refine at_qload 41 ?_); refine wpQuiet_load_one (by rfl) 41 (.tmp 41) rfl ⟨w.heap.size, 2, none⟩ rfl (.slice Ao T.outs.length co) Try.isAgg41 Couts.out ?_; simp only [Act.put, List.setIfInBounds_toArray, List.set_cons_succ, List.set_cons_zero])
    | ((with_reducible refine at_qload 45 ?_); refine wpQuiet_load_one (by rfl) 41 (.tmp 45) rfl ⟨w.heap.size, 2, none⟩ rfl (.slice Ao T.outs.length co) Try.isAgg41 Couts.out ?_; simp only [Act.put, List.setIfInBounds_toArray, List.set_cons_succ, List.set_cons_zero])
    | ((with_reducible refine at_qload 49 ?_); refine wpQuiet_load_one (by rfl) 42 (.tmp 49) rfl ⟨w.heap.size, 35, none⟩ rfl (.slice An T.nulls.length cn) Try.isAgg42 Cnulls.out ?_; simp only [Act.put, List.setIfInBounds_toArray, List.set_cons_succ, List.set_cons_zero])
    | ((with_reducible refine at_qload 55 ?_); refine wpQuiet_load_one (by rfl) 42 (.tmp 55) rfl ⟨w.heap.size, 35, none⟩ rfl (.slice An T.nulls.length cn) Try.isAgg42 Cnulls.out ?_; simp only [Act.put, List.setIfInBounds_toArray, List.set_cons_succ, List.set_cons_zero])
    | ((with_reducible refine at_qload 59 ?_); refine wpQuiet_load_one (by rfl) 42 (.tmp 59) rfl ⟨w.heap.size, 36, none⟩ rfl (.slice At T.notes.length ct) Try.isAgg42 Cnotes.out ?_; simp only [Act.put, List.setIfInBounds_toArray, List.set_cons_succ, List.set_cons_zero])
    | ((with_reducible refine at_qload 63 ?_); refine wpQuiet_load_one (by rfl) 42 (.tmp 63) rfl ⟨w.heap.size, 36, none⟩ rfl (.slice At T.notes.length ct) Try.isAgg42 Cnotes.out ?_; simp only [Act.put, List.setIfInBounds_toArray, List.set_cons_succ, List.set_cons_zero])
    | ((with_reducible refine at_qload 67 ?_); refine wpQuiet_load_one (by rfl) 2 (.tmp 67) rfl ⟨w.heap.size, 37, none⟩ rfl (.int .i64 T.bal.1) Try.isAgg2 Cbal.out ?_; simp only [Act.put, List.setIfInBounds_toArray, List.set_cons_succ, List.set_cons_zero])
    | (go_big_quiet_want; go_big_quiet_op; refine ⟨_, fun _ _ => by with_reducible rfl, ?_⟩; go_big_quiet_on)
    | go_big_quiet_step ((intro hC; first
        | (go_at_call 60; with_reducible exact (number_any T.exp _).mono fun _ _ h => ⟨h.1, hC.call h.2⟩)
        | (go_at_call 61; with_reducible exact (countPt_any Ai T.ins.length ci LI.out _).mono fun _ _ h => ⟨h.1, hC.call h.2⟩)
        | (go_at_call 62; with_reducible exact (joinPt_any Ai ci T.ins _ (RI.out _ hC) (by have := HI.out; omega)).mono fun _ _ h => ⟨h.1, hC.call h.2⟩)
        | (go_at_call 64; with_reducible exact (countOut_any Ao T.outs.length co LO.out _).mono fun _ _ h => ⟨h.1, hC.call h.2⟩)
        | (go_at_call 65; with_reducible exact (joinOut_any Ao co T.outs _ (RO.out _ hC) (by have := HO.out; omega)).mono fun _ _ h => ⟨h.1, hC.call h.2⟩)
        | (go_at_call 67; with_reducible exact (countKey_any An T.nulls.length cn LN.out _).mono fun _ _ h => ⟨h.1, hC.call h.2⟩)
        | (go_at_call 67; with_reducible exact (countKey_any At T.notes.length ct LT.out _).mono fun _ _ h => ⟨h.1, hC.call h.2⟩)
        | (go_at_call 68; with_reducible exact (joinKey_any An cn T.nulls _ (RN.out _ hC) (by have := HN.out; omega)).mono fun _ _ h => ⟨h.1, hC.call h.2⟩)
        | (go_at_call 68; with_reducible exact (joinKey_any At ct T.notes _ (RT.out _ hC) (by have := HT.out; omega)).mono fun _ _ h => ⟨h.1, hC.call h.2⟩)
        | (go_at_call 69; with_reducible exact (amount_any T.bal _).mono fun _ _ h => ⟨h.1, hC.call h.2⟩))))
  refine wpQuiet_nil ?_
  intro w9 hC
  go_wp2_with fail
  go_ret2
  rw [HE.out]
  exact ⟨rfl, HLB.out _ hC⟩
theorem enc_any (w : World) (h : TxIn w w.heap.size T Ai ci Ao co An cn At ct) :
    Calls Try.prog 45 #[.agg (txCells T Ai ci Ao co An cn At ct).toArray] w fun e w' => e = .returned (encV (encF T)) ∧ Below w.heap.size w w' := by
  by_cases hx : T.ins.length ≤ 40 ∧ T.outs.length ≤ 40 ∧ T.nulls.length ≤ 40 ∧ T.notes.length ≤ 40
  · by_cases h0 : T.nulls.length = 0
    · by_cases ha : T.anchor = zeroKey
      · exact enc_none w h hx h0 ha
      · exact enc_arg w h hx h0 ha
    · exact enc_some w h hx (by omega)
  · exact enc_many w (by omega)
end
end Go.Proofs.Ythpnmmilioonhaa
