/- Coins compared. -/
import Derived.Test.YtkjgmhamglhggaaCoiA
namespace Go.Proofs.Ytkjgmhamglhggaa
open Go.RowKit
theorem co_ext (c : CoinV) : (encC c).toArray.extract 0 33 = (encKI .u32 c.at_).toArray ∧ (encC c).toArray.extract 33 66 = (encIK .i64 c.out).toArray ∧ (encC c).toArray[66]? = some (.int .u32 c.h.1) ∧ (encC c).toArray[67]? = some (.bool c.b) := by
  have h1 : (encKI .u32 c.at_).length = 33 := encKI_len _ _
  have h2 : (encIK .i64 c.out).length = 33 := encIK_len _ _
  unfold encC
  refine ⟨?_, ?_, ?_, ?_⟩
  · apply Array.toList_inj.1
    rw [List.extract_toArray, List.extract_eq_take_drop, List.drop_zero, List.take_append_of_le_length (by omega), List.take_of_length_le (by omega)]
  · apply Array.toList_inj.1
    rw [List.extract_toArray, List.extract_eq_take_drop, List.drop_append, List.drop_of_length_le (by omega), List.nil_append, h1, Nat.sub_self, List.drop_zero, List.take_append_of_le_length (by omega), List.take_of_length_le (by omega)]
  · rw [List.getElem?_toArray, List.getElem?_append_right (by omega), h1, List.getElem?_append_right (by omega), h2]
    rfl
  · rw [List.getElem?_toArray, List.getElem?_append_right (by omega), h1, List.getElem?_append_right (by omega), h2]
    rfl
theorem part_pt (cs : Array Value) (off : Nat) (V : World) : (part 32 cs off).run Try.prog V = .ok (.agg (cs.extract off (off + 33))) V := by
  simp [part, tyPt.agg, tyPt.sizeOf]
theorem part_out (cs : Array Value) (off : Nat) (V : World) : (part 47 cs off).run Try.prog V = .ok (.agg (cs.extract off (off + 33))) V := by
  simp [part, tyOut.agg, tyOut.sizeOf]
theorem part_bool (cs : Array Value) (off : Nat) (v : Value) (h : cs[off]? = some v) (V : World) : (part 4 cs off).run Try.prog V = .ok v V := by
  have ha := Try.isAgg4 V
  simp [part, ha, h]
set_option maxRecDepth 20000 in
set_option maxHeartbeats 4000000 in
theorem eqC_gen {t : TypeId} {f0 f1 f2 f3 : Field} (hs : Try.prog.underlying t = some (.struct #[f0, f1, f2, f3])) (hp : Try.prog.stoodInHeld t = false) (hn : f0.name ≠ "_" ∧ f1.name ≠ "_" ∧ f2.name ≠ "_" ∧ f3.name ≠ "_")
    (o0 : f0.offset = 0) (o1 : f1.offset = 33) (o2 : f2.offset = 66) (o3 : f3.offset = 67) (t0 : f0.type = 32) (t1 : f1.type = 47) (t2 : f2.type = 23) (t3 : f3.type = 4) (x y : CoinV) (V : World) :
    (Op.equalIn 10000 t (.agg (encC x).toArray) (.agg (encC y).toArray)).run Try.prog V = .ok (decide (x = y)) V := by
  have hf : Try.prog.fieldsOf t = #[f0, f1, f2, f3] := by simp [Program.fieldsOf, hs]
  obtain ⟨x0, x1, x2, x3⟩ := co_ext x
  obtain ⟨y0, y1, y2, y3⟩ := co_ext y
  have px0 := part_pt (encC x).toArray 0 V
  have py0 := part_pt (encC y).toArray 0 V
  have px1 := part_out (encC x).toArray 33 V
  have py1 := part_out (encC y).toArray 33 V
  rw [Nat.zero_add, x0] at px0
  rw [Nat.zero_add, y0] at py0
  rw [show 33 + 33 = 66 from rfl, x1] at px1
  rw [show 33 + 33 = 66 from rfl, y1] at py1
  have px2 := run_part_int V Try.underlying23 (encC x).toArray 66 _ x2
  have py2 := run_part_int V Try.underlying23 (encC y).toArray 66 _ y2
  have px3 := part_bool (encC x).toArray 67 _ x3 V
  have py3 := part_bool (encC y).toArray 67 _ y3 V
  have e0 : (Op.equalIn 9999 32 (.agg (encKI .u32 x.at_).toArray) (.agg (encKI .u32 y.at_).toArray)).run Try.prog V = .ok (decide (x.at_ = y.at_)) V :=
    run_eq_KI_d V 9996 (show Try.prog.underlying 32 = some (.struct #[(Try.prog.fieldsOf 32)[0]!, (Try.prog.fieldsOf 32)[1]!]) by kernel_rfl) (by kernel_rfl) (by decide +kernel) (by decide +kernel) (by kernel_rfl) (by kernel_rfl) (by kernel_rfl) (by kernel_rfl) Try.underlying27 Try.underlying5 (by kernel_rfl) (by kernel_rfl) Try.underlying23 x.at_ y.at_
  have e1 : (Op.equalIn 9999 47 (.agg (encIK .i64 x.out).toArray) (.agg (encIK .i64 y.out).toArray)).run Try.prog V = .ok (decide (x.out = y.out)) V :=
    run_eq_IK_d V 9996 (show Try.prog.underlying 47 = some (.struct #[(Try.prog.fieldsOf 47)[0]!, (Try.prog.fieldsOf 47)[1]!]) by kernel_rfl) (by kernel_rfl) (by decide +kernel) (by decide +kernel) (by kernel_rfl) (by kernel_rfl) (by kernel_rfl) (by kernel_rfl) Try.underlying27 Try.underlying5 (by kernel_rfl) (by kernel_rfl) Try.underlying2 x.out y.out
  have e2 : (Op.equalIn 9999 23 (.int .u32 x.h.1) (.int .u32 y.h.1)).run Try.prog V = .ok (x.h.1 == y.h.1) V := run_equalIn_int V 9998 23 .u32 .u32 _ _ Try.underlying23
  have e3 : (Op.equalIn 9999 4 (.bool x.b) (.bool y.b)).run Try.prog V = .ok (x.b == y.b) V := run_equalIn_bool V 9998 4 x.b y.b Try.underlying4
  rw [show 10000 = 9999 + 1 from rfl, run_equalIn_struct V 9999 t _ _ (by rw [hf]; exact hs) hp, hf]
  have hxy : x = y ↔ x.at_ = y.at_ ∧ x.out = y.out ∧ x.h.1 = y.h.1 ∧ x.b = y.b := by
    cases x; cases y
    simp only [CoinV.mk.injEq]
    exact ⟨fun h => ⟨h.1, h.2.1, congrArg Subtype.val h.2.2.1, h.2.2.2⟩, fun h => ⟨h.1, h.2.1, Subtype.ext h.2.2.1, h.2.2.2⟩⟩
  have hd : decide (x = y) = (decide (x.at_ = y.at_) && (decide (x.out = y.out) && ((x.h.1 == y.h.1) && (x.b == y.b)))) := by
    rw [Bool.eq_iff_iff, decide_eq_true_iff, hxy]
    simp
  rw [hd]
  generalize decide (x.at_ = y.at_) = b0 at e0 ⊢
  generalize decide (x.out = y.out) = b1 at e1 ⊢
  generalize (x.h.1 == y.h.1) = b2 at e2 ⊢
  generalize (x.b == y.b) = b3 at e3 ⊢
  obtain ⟨n0, n1, n2, n3⟩ := hn
  cases b0 <;> cases b1 <;> cases b2 <;> cases b3 <;> simp [Op.eqFields, n0, n1, n2, n3, o0, o1, o2, o3, t0, t1, t2, t3, px0, py0, px1, py1, px2, py2, px3, py3, e0, e1, e2, e3]
set_option maxRecDepth 20000 in
theorem eqCo_run (x y : CoinV) (V : World) : (Op.equal 49 (.agg (encC x).toArray) (.agg (encC y).toArray)).run Try.prog V = .ok (decide (x = y)) V :=
  eqC_gen (f0 := (Try.prog.fieldsOf 49)[0]!) (f1 := (Try.prog.fieldsOf 49)[1]!) (f2 := (Try.prog.fieldsOf 49)[2]!) (f3 := (Try.prog.fieldsOf 49)[3]!) (by kernel_rfl) (by kernel_rfl) ⟨by decide +kernel, by decide +kernel, by decide +kernel, by decide +kernel⟩ (by kernel_rfl) (by kernel_rfl) (by kernel_rfl) (by kernel_rfl) (by kernel_rfl) (by kernel_rfl) (by kernel_rfl) (by kernel_rfl) x y V
set_option maxRecDepth 20000 in
theorem eqCr_run (x y : CoinV) (V : World) : (Op.equal 52 (.agg (encC x).toArray) (.agg (encC y).toArray)).run Try.prog V = .ok (decide (x = y)) V :=
  eqC_gen (f0 := (Try.prog.fieldsOf 52)[0]!) (f1 := (Try.prog.fieldsOf 52)[1]!) (f2 := (Try.prog.fieldsOf 52)[2]!) (f3 := (Try.prog.fieldsOf 52)[3]!) (by kernel_rfl) (by kernel_rfl) ⟨by decide +kernel, by decide +kernel, by decide +kernel, by decide +kernel⟩ (by kernel_rfl) (by kernel_rfl) (by kernel_rfl) (by kernel_rfl) (by kernel_rfl) (by kernel_rfl) (by kernel_rfl) (by kernel_rfl) x y V
end Go.Proofs.Ytkjgmhamglhggaa
