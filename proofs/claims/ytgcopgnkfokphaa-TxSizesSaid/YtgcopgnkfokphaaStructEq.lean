/- '==' of two structs of a key and a number, or of a number and a key. Over any program. -/
import Derived.Test.YtgcopgnkfokphaaStructArg
import Derived.Test.YtgcopgnkfokphaaKeyEq
import Derived.Laws.StructEq
namespace Go.Proofs.Ytgcopgnkfokphaa
open Go.RowKit
section
variable {P : Program} (w : World) {t tk ti e : TypeId} {q : IntKind} {f0 f1 : Field}
theorem run_eq_bytes_d (d : Nat) {n : Nat} (ht : P.underlying t = some (.array n e)) (hu : P.underlying e = some (.int .u8)) (hc : P.cellsOf e = 1) (l m : List UInt8) (hl : l.length = n) (hm : m.length = n) :
    (Op.equalIn (d + 2) t (.agg (bytesA l)) (.agg (bytesA m))).run P w = .ok (decide (l = m)) w := by
  obtain ⟨i, hi⟩ := info_of_underlying hu
  rw [show d + 2 = (d + 1) + 1 from rfl, run_equalIn_array w (d + 1) _ _ ht hi, hc, run_eqItems_bytes w d hu l m _ (fun j hj => by rw [List.mem_range] at hj; omega), ← hl, all_range_eq l m (by omega)]
theorem run_part_key (hk : P.underlying tk = some (.array 32 e)) (hct : P.cellsOf tk = 32) (cs : Array Value) (off : Nat) : (part tk cs off).run P w = .ok (.agg (cs.extract off (off + 32))) w := by
  obtain ⟨i, hi⟩ := info_of_underlying hk
  simp [part, isAgg, run_underlying hk, run_sizeOf w hi, hct]
theorem run_part_int (hi : P.underlying ti = some (.int q)) (cs : Array Value) (off : Nat) (v : Value) (hv : cs[off]? = some v) : (part ti cs off).run P w = .ok v w :=
  run_part_plain w (by simp [Program.plainKey, hi]) hv
theorem ki_key (x : K32 × IntV q) : (encKI q x).toArray.extract 0 32 = bytesA x.1.1 := by
  rw [← encK_arr]
  apply Array.toList_inj.1
  have hl := encK_len x.1
  simp [encKI, hl]
theorem ki_int (x : K32 × IntV q) : (encKI q x).toArray[32]? = some (.int q x.2.1) := by
  have hl := encK_len x.1
  simp [encKI, hl]
theorem ik_key (x : IntV q × K32) : (encIK q x).toArray.extract 1 33 = bytesA x.2.1 := by
  rw [← encK_arr]
  apply Array.toList_inj.1
  have hl := encK_len x.2
  simp [encIK, List.take_of_length_le (Nat.le_of_eq hl)]
theorem ik_int (x : IntV q × K32) : (encIK q x).toArray[0]? = some (.int q x.1.1) := by simp [encIK]
theorem run_eq_KI (hs : P.underlying t = some (.struct #[f0, f1])) (hp : P.stoodInHeld t = false) (n0 : f0.name ≠ "_") (n1 : f1.name ≠ "_") (o0 : f0.offset = 0) (o1 : f1.offset = 32) (t0 : f0.type = tk) (t1 : f1.type = ti)
    (hk : P.underlying tk = some (.array 32 e)) (he : P.underlying e = some (.int .u8)) (hc : P.cellsOf e = 1) (hct : P.cellsOf tk = 32) (hi : P.underlying ti = some (.int q)) (x y : K32 × IntV q) :
    (Op.equalIn 10000 t (.agg (encKI q x).toArray) (.agg (encKI q y).toArray)).run P w = .ok (decide (x = y)) w := by
  have hf : P.fieldsOf t = #[f0, f1] := by simp [Program.fieldsOf, hs]
  have e1 : (Op.equalIn 9999 tk (.agg (bytesA x.1.1)) (.agg (bytesA y.1.1))).run P w = .ok (decide (x.1.1 = y.1.1)) w := run_eq_bytes_d w 9997 hk he hc x.1.1 y.1.1 x.1.2 y.1.2
  have e2 : (Op.equalIn 9999 ti (.int q x.2.1) (.int q y.2.1)).run P w = .ok (x.2.1 == y.2.1) w := run_equalIn_int (P := P) w 9998 ti q q x.2.1 y.2.1 hi
  have px : (part tk (encKI q x).toArray 0).run P w = .ok (.agg (bytesA x.1.1)) w := by rw [run_part_key w hk hct, ki_key]
  have py : (part tk (encKI q y).toArray 0).run P w = .ok (.agg (bytesA y.1.1)) w := by rw [run_part_key w hk hct, ki_key]
  have qx := run_part_int w hi (encKI q x).toArray 32 _ (ki_int x)
  have qy := run_part_int w hi (encKI q y).toArray 32 _ (ki_int y)
  subst t0 t1
  rw [show 10000 = 9999 + 1 from rfl, run_equalIn_struct w 9999 t _ _ (by rw [hf]; exact hs) hp, hf]
  have hxy : x = y ↔ x.1.1 = y.1.1 ∧ x.2.1 = y.2.1 := ⟨fun h => h ▸ ⟨rfl, rfl⟩, fun h => Prod.ext (Subtype.ext h.1) (Subtype.ext h.2)⟩
  have hd : decide (x = y) = (decide (x.1.1 = y.1.1) && (x.2.1 == y.2.1)) := by
    rw [Bool.eq_iff_iff, decide_eq_true_iff, hxy, Bool.and_eq_true, decide_eq_true_iff, beq_iff_eq]
  rw [hd]
  generalize decide (x.1.1 = y.1.1) = b1 at e1 ⊢
  generalize (x.2.1 == y.2.1) = b2 at e2 ⊢
  cases b1 <;> cases b2 <;> simp [Op.eqFields, n0, n1, o0, o1, px, py, qx, qy, e1, e2]
theorem run_eq_IK (hs : P.underlying t = some (.struct #[f0, f1])) (hp : P.stoodInHeld t = false) (n0 : f0.name ≠ "_") (n1 : f1.name ≠ "_") (o0 : f0.offset = 0) (o1 : f1.offset = 1) (t0 : f0.type = ti) (t1 : f1.type = tk)
    (hk : P.underlying tk = some (.array 32 e)) (he : P.underlying e = some (.int .u8)) (hc : P.cellsOf e = 1) (hct : P.cellsOf tk = 32) (hi : P.underlying ti = some (.int q)) (x y : IntV q × K32) :
    (Op.equalIn 10000 t (.agg (encIK q x).toArray) (.agg (encIK q y).toArray)).run P w = .ok (decide (x = y)) w := by
  have hf : P.fieldsOf t = #[f0, f1] := by simp [Program.fieldsOf, hs]
  have e1 : (Op.equalIn 9999 tk (.agg (bytesA x.2.1)) (.agg (bytesA y.2.1))).run P w = .ok (decide (x.2.1 = y.2.1)) w := run_eq_bytes_d w 9997 hk he hc x.2.1 y.2.1 x.2.2 y.2.2
  have e2 : (Op.equalIn 9999 ti (.int q x.1.1) (.int q y.1.1)).run P w = .ok (x.1.1 == y.1.1) w := run_equalIn_int (P := P) w 9998 ti q q x.1.1 y.1.1 hi
  have px : (part tk (encIK q x).toArray 1).run P w = .ok (.agg (bytesA x.2.1)) w := by rw [run_part_key w hk hct, ik_key]
  have py : (part tk (encIK q y).toArray 1).run P w = .ok (.agg (bytesA y.2.1)) w := by rw [run_part_key w hk hct, ik_key]
  have qx := run_part_int w hi (encIK q x).toArray 0 _ (ik_int x)
  have qy := run_part_int w hi (encIK q y).toArray 0 _ (ik_int y)
  subst t0 t1
  rw [show 10000 = 9999 + 1 from rfl, run_equalIn_struct w 9999 t _ _ (by rw [hf]; exact hs) hp, hf]
  have hxy : x = y ↔ x.1.1 = y.1.1 ∧ x.2.1 = y.2.1 := ⟨fun h => h ▸ ⟨rfl, rfl⟩, fun h => Prod.ext (Subtype.ext h.1) (Subtype.ext h.2)⟩
  have hd : decide (x = y) = (decide (x.2.1 = y.2.1) && (x.1.1 == y.1.1)) := by
    rw [Bool.eq_iff_iff, decide_eq_true_iff, hxy, Bool.and_eq_true, decide_eq_true_iff, beq_iff_eq]; exact and_comm
  rw [hd]
  generalize decide (x.2.1 = y.2.1) = b1 at e1 ⊢
  generalize (x.1.1 == y.1.1) = b2 at e2 ⊢
  cases b1 <;> cases b2 <;> simp [Op.eqFields, n0, n1, o0, o1, px, py, qx, qy, e1, e2]
end
end Go.Proofs.Ytgcopgnkfokphaa
