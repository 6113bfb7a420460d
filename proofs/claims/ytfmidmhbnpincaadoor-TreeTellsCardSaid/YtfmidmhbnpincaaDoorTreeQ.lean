/- '==' of arrays of keys and of trees, of a value and itself. -/
import Derived.Test.YtfmidmhbnpincaaDoorTreeA
namespace Go.Proofs.YtfmidmhbnpincaaDoor
open Go.RowKit
section
variable {P : Program} (w : World) {t tk ti e : TypeId}
theorem run_part_arr {n k : Nat} (hk : P.underlying tk = some (.array n e)) (hct : P.cellsOf tk = k) (cs : Array Value) (off : Nat) : (part tk cs off).run P w = .ok (.agg (cs.extract off (off + k))) w := by
  obtain ⟨i, hi⟩ := info_of_underlying hk
  simp [part, isAgg, run_underlying hk, run_sizeOf w hi, hct]
theorem run_eqItems_keys (d : Nat) (hk : P.underlying tk = some (.array 32 e)) (he : P.underlying e = some (.int .u8)) (hc : P.cellsOf e = 1) (hct : P.cellsOf tk = 32) (cs : Array Value) (l : List K32)
    (hcs : ∀ i (hi : i < l.length), cs.extract (i * 32) (i * 32 + 32) = bytesA l[i].1) : ∀ is : List Nat, (∀ j ∈ is, j < l.length) → (Op.eqItems (d + 2) tk 32 cs cs is).run P w = .ok true w
  | [], _ => by simp [Op.eqItems]
  | i :: is, h => by
    have hi := h i (by simp)
    have p1 := run_part_key (P := P) w hk hct cs (i * 32)
    rw [hcs i hi] at p1
    have ih := run_eqItems_keys d hk he hc hct cs l hcs is (fun j hj => h j (by simp [hj]))
    have e1 := run_eq_bytes_d (P := P) w d hk he hc l[i].1 l[i].1 l[i].2 l[i].2
    rw [decide_eq_true rfl] at e1
    simp only [Op.eqItems, Sem.run_bind, p1, Result.andThen_ok, e1]
    simpa using ih
theorem run_eq_keys (D d : Nat) (hD : D = d + 3) {n : Nat} (ht : P.underlying t = some (.array n tk)) (hk : P.underlying tk = some (.array 32 e)) (he : P.underlying e = some (.int .u8)) (hc : P.cellsOf e = 1) (hct : P.cellsOf tk = 32) (cs : Array Value) (l : List K32) (hl : l.length = n)
    (hcs : ∀ i (hi : i < l.length), cs.extract (i * 32) (i * 32 + 32) = bytesA l[i].1) : (Op.equalIn D t (.agg cs) (.agg cs)).run P w = .ok true w := by
  subst hD
  obtain ⟨i, hi⟩ := info_of_underlying hk
  rw [show d + 3 = (d + 2) + 1 from rfl, run_equalIn_array w (d + 2) _ _ ht hi, hct]
  exact run_eqItems_keys w d hk he hc hct cs l hcs _ (fun j hj => by rw [List.mem_range] at hj; omega)
end
theorem cells_extract (l : List K32) (i : Nat) (hi : i < l.length) : (cellsOf encK l).toArray.extract (i * 32) (i * 32 + 32) = bytesA l[i].1 := by
  rw [← encK_arr]
  apply Array.toList_inj.1
  rw [List.extract_toArray, List.extract_eq_take_drop]
  have e1 : l.take i ++ l[i] :: l.drop (i + 1) = l := by rw [List.getElem_cons_drop, List.take_append_drop]
  have hl : (cellsOf encK (l.take i)).length = i * 32 := by rw [cellsOf_len encK_len, List.length_take]; omega
  have hk : (encK l[i]).length = 32 := encK_len _
  have e2 : cellsOf encK l = cellsOf encK (l.take i) ++ (encK l[i] ++ cellsOf encK (l.drop (i + 1))) := by
    conv => lhs; rw [← e1]
    rw [cellsOf_append]
    rfl
  rw [e2, List.drop_append, List.drop_of_length_le (by omega), List.nil_append, hl, Nat.sub_self, List.drop_zero, show i * 32 + 32 - i * 32 = 32 by omega, List.take_append_of_le_length (by omega), List.take_of_length_le (by omega)]
theorem eqE_run (x : E33) (V : World) : (Op.equal 40 (.agg x.cells.toArray) (.agg x.cells.toArray)).run Tryd.prog V = .ok true V :=
  run_eq_keys V 10000 9997 rfl Tryd.underlying40 Tryd.underlying24 Tryd.underlying5 (by kernel_rfl) (by kernel_rfl) _ x.l x.h (fun i hi => cells_extract x.l i hi)
theorem eqTr_gen {t : TypeId} {f0 f1 : Field} (hs : Tryd.prog.underlying t = some (.struct #[f0, f1])) (hp : Tryd.prog.stoodInHeld t = false) (n0 : f0.name ≠ "_") (n1 : f1.name ≠ "_") (o0 : f0.offset = 0) (o1 : f1.offset = 1) (t0 : f0.type = 22) (t1 : f1.type = 25) (x : TrV) (V : World) :
    (Op.equalIn 10000 t (.agg x.cells.toArray) (.agg x.cells.toArray)).run Tryd.prog V = .ok true V := by
  have hf : Tryd.prog.fieldsOf t = #[f0, f1] := by simp [Program.fieldsOf, hs]
  have px : (part 22 x.cells.toArray 0).run Tryd.prog V = .ok (.int .u32 x.c) V := run_part_int V Tryd.underlying22 x.cells.toArray 0 _ (by simp [TrV.cells])
  have py := run_part_arr V Tryd.underlying25 (show Tryd.prog.cellsOf 25 = 1024 by kernel_rfl) x.cells.toArray 1
  have ec : x.cells.toArray.extract 1 (1 + 1024) = (cellsOf encK x.P).toArray := by
    apply Array.toList_inj.1
    rw [List.extract_toArray, List.extract_eq_take_drop]
    unfold TrV.cells
    rw [List.drop_succ_cons, List.drop_zero, List.take_of_length_le (by rw [cellsOf_len encK_len, x.hP]; omega)]
  rw [ec] at py
  have e1 := run_eq_keys V 9999 9996 rfl Tryd.underlying25 Tryd.underlying24 Tryd.underlying5 (by kernel_rfl) (by kernel_rfl) (cellsOf encK x.P).toArray x.P x.hP (fun i hi => cells_extract x.P i hi)
  have e0 : (Op.equalIn 9999 22 (.int .u32 x.c) (.int .u32 x.c)).run Tryd.prog V = .ok ((x.c : Int) == x.c) V := run_equalIn_int V 9998 22 .u32 .u32 _ _ Tryd.underlying22
  rw [beq_self_eq_true] at e0
  rw [show 10000 = 9999 + 1 from rfl, run_equalIn_struct V 9999 t _ _ (by rw [hf]; exact hs) hp, hf]
  show Sem.run _ (Op.eqFields 9999 x.cells.toArray x.cells.toArray [f0, f1]) V = _
  unfold Op.eqFields
  rw [if_pos n0, o0, t0]
  simp only [Sem.run_bind, px, Result.andThen_ok, e0, Bool.not_true, Bool.false_eq_true, if_false]
  unfold Op.eqFields
  rw [if_pos n1, o1, t1]
  rw [Sem.run_bind, py, Result.andThen_ok, Sem.run_bind, py, Result.andThen_ok, Sem.run_bind, e1, Result.andThen_ok]
  rfl
theorem eqTr_run (x : TrV) (V : World) : (Op.equal 27 (.agg x.cells.toArray) (.agg x.cells.toArray)).run Tryd.prog V = .ok true V :=
  eqTr_gen (f0 := (Tryd.prog.fieldsOf 27)[0]!) (f1 := (Tryd.prog.fieldsOf 27)[1]!) (by kernel_rfl) (by kernel_rfl) (by decide +kernel) (by decide +kernel) (by kernel_rfl) (by kernel_rfl) (by kernel_rfl) (by kernel_rfl) x V
theorem eqRf_run (x : TrV) (V : World) : (Op.equal 33 (.agg x.cells.toArray) (.agg x.cells.toArray)).run Tryd.prog V = .ok true V :=
  eqTr_gen (f0 := (Tryd.prog.fieldsOf 33)[0]!) (f1 := (Tryd.prog.fieldsOf 33)[1]!) (by kernel_rfl) (by kernel_rfl) (by decide +kernel) (by decide +kernel) (by kernel_rfl) (by kernel_rfl) (by kernel_rfl) (by kernel_rfl) x V
end Go.Proofs.YtfmidmhbnpincaaDoor
