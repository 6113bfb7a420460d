/- Verdicts: plain; their cells, their types. -/
import Derived.Test.YthepiegaoekccaaTxTy
import Derived.Test.YthepiegaoekccaaCellB
namespace Go.Proofs.Ythepiegaoekccaa
open Go.RowKit
structure VdV where
  tx : K32
  item : IntV .i64
  good : Bool
deriving DecidableEq
def encVd (x : VdV) : List Value := encK x.tx ++ [.int .i64 x.item.1, .bool x.good]
theorem encVd_len (x : VdV) : (encVd x).length = 34 := by unfold encVd; rw [List.length_append, encK_len]; rfl
theorem encVd_one (x : VdV) : ∀ v ∈ encVd x, v.oneCell' = true := by
  intro v hv
  unfold encVd at hv
  rcases List.mem_append.1 hv with h | h
  · exact encK_one _ v h
  · simp only [List.mem_cons, List.not_mem_nil, or_false] at h
    rcases h with rfl | rfl <;> rfl
section
variable {w : World} {g o : Nat} {x : VdV}
theorem RowC.vd_tx (h : RowC w g o (encVd x)) : RowC w g o (encK x.tx) := h.left
theorem RowC.vd_item (h : RowC w g o (encVd x)) : w.cell? ⟨g, o + 32, none⟩ = some (.int .i64 x.item.1) := by
  have := h.right.head
  rwa [encK_len] at this
theorem RowC.vd_good (h : RowC w g o (encVd x)) : w.cell? ⟨g, o + 33, none⟩ = some (.bool x.good) := by
  have := h.right.tail.head
  rwa [encK_len] at this
end
/-- Good of the first verdict on an item, or false -/
def lookF : List VdV → K32 → Int → Bool
  | [], _, _ => false
  | x :: l, id, it => if x.tx = id ∧ x.item.1 = it then x.good else lookF l id it
theorem lookF_hit {x : VdV} {l : List VdV} {id : K32} {it : Int} (h1 : x.tx = id) (h2 : x.item.1 = it) : lookF (x :: l) id it = x.good := if_pos ⟨h1, h2⟩
theorem lookF_miss {x : VdV} {l : List VdV} {id : K32} {it : Int} (h : ¬ (x.tx = id ∧ x.item.1 = it)) : lookF (x :: l) id it = lookF l id it := if_neg h
theorem lookF_app : ∀ (a b : List VdV) (id : K32) (it : Int), (∀ x ∈ a, ¬ (x.tx = id ∧ x.item.1 = it)) → lookF (a ++ b) id it = lookF b id it
  | [], _, _, _, _ => rfl
  | x :: a, b, id, it, h => by
    rw [List.cons_append, lookF_miss (h x (by simp)), lookF_app a b id it (fun y hy => h y (by simp [hy]))]
/-- whether all items below a number are good -/
def allVd (l : List VdV) (id : K32) (n : Int) : Bool := (List.range n.toNat).all fun i => lookF l id (i : Int)
theorem allVd_iff {l : List VdV} {id : K32} {n : Int} : allVd l id n = true ↔ ∀ i : Nat, (i : Int) < n → lookF l id (i : Int) = true := by
  unfold allVd
  rw [List.all_eq_true]
  simp only [List.mem_range]
  exact ⟨fun h i hi => h i (by omega), fun h i hi => h i (by omega)⟩
theorem allVd_low {l : List VdV} {id : K32} {n : Int} (h : n ≤ 0) : allVd l id n = true := allVd_iff.2 fun i hi => by omega
theorem allVd_next {l : List VdV} {id : K32} {n : Int} (h : 0 ≤ n) : allVd l id (n + 1) = (allVd l id n && lookF l id n) := by
  rw [Bool.eq_iff_iff, Bool.and_eq_true, allVd_iff, allVd_iff]
  constructor
  · intro h1
    obtain ⟨m, rfl⟩ := Int.eq_ofNat_of_zero_le h
    exact ⟨fun i hi => h1 i (by omega), h1 m (by omega)⟩
  · rintro ⟨h1, h2⟩ i hi
    by_cases e : (i : Int) < n
    · exact h1 i e
    · rw [show (i : Int) = n by omega]; exact h2
theorem allVd_bad {l : List VdV} {id : K32} {n : Int} {i : Nat} (hi : (i : Int) < n) (h : lookF l id (i : Int) = false) : allVd l id n = false := by
  rw [Bool.eq_false_iff]
  intro h1
  rw [allVd_iff.1 h1 i hi] at h
  cases h
/-- the number of an item -/
def vdI (i : Nat) : IntV .i64 := if h : i ≤ 1000000 then ⟨(i : Int), by rw [wf_i64]; omega⟩ else ⟨0, by decide⟩
theorem vdI_val {i : Nat} (h : i ≤ 1000000) : (vdI i).1 = (i : Int) := by unfold vdI; rw [dif_pos h]
def goodL (id : K32) (n : Nat) : List VdV := (List.range n).map fun i => ⟨id, vdI i, true⟩
theorem goodL_len (id : K32) (n : Nat) : (goodL id n).length = n := by unfold goodL; rw [List.length_map, List.length_range]
theorem goodL_next (id : K32) (n : Nat) : goodL id n ++ [⟨id, vdI n, true⟩] = goodL id (n + 1) := by unfold goodL; rw [List.range_succ, List.map_append]; rfl
/-- what Good answers -/
def goodF (id : K32) (n : Int) : List VdV := if 1000 < n then [] else goodL id n.toNat
theorem goodF_len_le (id : K32) (n : Int) : (goodF id n).length ≤ 1000 := by
  unfold goodF
  split
  · simp
  · rw [goodL_len]; omega
theorem lookF_good {id : K32} : ∀ {n : Nat} {b : List VdV} {i : Nat}, n ≤ 1000000 → i < n → lookF (goodL id n ++ b) id (i : Int) = true
  | 0, _, _, _, h => absurd h (by omega)
  | n + 1, b, i, hn, h => by
    rw [← goodL_next, List.append_assoc]
    by_cases e : i < n
    · exact lookF_good (by omega) e
    · obtain rfl : i = n := by omega
      rw [lookF_app]
      · exact lookF_hit rfl (vdI_val (by omega))
      · intro x hx
        unfold goodL at hx
        obtain ⟨k, hk, rfl⟩ := List.mem_map.1 hx
        rw [List.mem_range] at hk
        simp only [true_and]
        rw [vdI_val (by omega)]
        omega
theorem lookF_past {id : K32} {n : Nat} {b : List VdV} {i : Nat} (hn : n ≤ 1000000) (h : n ≤ i) : lookF (goodL id n ++ b) id (i : Int) = lookF b id (i : Int) := lookF_app _ _ _ _ fun x hx => by
  unfold goodL at hx
  obtain ⟨k, hk, rfl⟩ := List.mem_map.1 hx
  rw [List.mem_range] at hk
  simp only [true_and]
  rw [vdI_val (by omega)]
  omega
theorem tyVd : RowTy Try.prog 22 37 encVd 34 := ⟨Try.underlying22, by kernel_rfl, encVd_len, encVd_one, Try.isAgg37, by omega⟩
theorem tyVr : RowTy Try.prog 33 36 encVd 34 := ⟨Try.underlying33, by kernel_rfl, encVd_len, encVd_one, Try.isAgg36, by omega⟩
theorem tyVdc : CellTy Try.prog 37 encVd 34 := ⟨tyVd.size, tyVd.len, tyVd.one, tyVd.agg⟩
theorem tyVrc : CellTy Try.prog 36 encVd 34 := ⟨tyVr.size, tyVr.len, tyVr.one, tyVr.agg⟩
theorem zcVd : ((Try.prog.info? 37).bind (·.zero)).map (·.cells.size) = some 34 := by kernel_rfl
theorem zcVr : ((Try.prog.info? 36).bind (·.zero)).map (·.cells.size) = some 34 := by kernel_rfl
theorem zsVd : ((Try.prog.info? 37).bind (·.zero)).isSome = true := by kernel_rfl
theorem zsVr : ((Try.prog.info? 36).bind (·.zero)).isSome = true := by kernel_rfl
theorem zbVd : (Try.prog.info? 37).map (·.bytes) = some 48 := by kernel_rfl
theorem zbVr : (Try.prog.info? 36).map (·.bytes) = some 48 := by kernel_rfl
theorem vd_ext (x : VdV) : (encVd x).toArray.extract 0 32 = bytesA x.tx.1 ∧ (encVd x).toArray[32]? = some (.int .i64 x.item.1) ∧ (encVd x).toArray[33]? = some (.bool x.good) := by
  have h1 : (encK x.tx).length = 32 := encK_len _
  rw [← encK_arr]
  unfold encVd
  refine ⟨?_, ?_, ?_⟩
  · apply Array.toList_inj.1
    rw [List.extract_toArray, List.extract_eq_take_drop, List.drop_zero, List.take_append_of_le_length (by omega), List.take_of_length_le (by omega)]
  · rw [List.getElem?_toArray, List.getElem?_append_right (by omega), h1]
    rfl
  · rw [List.getElem?_toArray, List.getElem?_append_right (by omega), h1]
    rfl
section
variable {P : Program} (w : World) {t tk ti tb e : TypeId} {f0 f1 f2 : Field}
theorem part_boolV (hb : P.underlying tb = some .bool) (cs : Array Value) (off : Nat) (v : Value) (hv : cs[off]? = some v) : (part tb cs off).run P w = .ok v w :=
  run_part_plain w (by simp [Program.plainKey, hb]) hv
theorem eqVd_gen (hs : P.underlying t = some (.struct #[f0, f1, f2])) (hp : P.stoodInHeld t = false) (n0 : f0.name ≠ "_") (n1 : f1.name ≠ "_") (n2 : f2.name ≠ "_") (o0 : f0.offset = 0) (o1 : f1.offset = 32) (o2 : f2.offset = 33) (t0 : f0.type = tk) (t1 : f1.type = ti) (t2 : f2.type = tb)
    (hk : P.underlying tk = some (.array 32 e)) (he : P.underlying e = some (.int .u8)) (hc : P.cellsOf e = 1) (hct : P.cellsOf tk = 32) (hi : P.underlying ti = some (.int .i64)) (hb : P.underlying tb = some .bool) (x y : VdV) :
    (Op.equalIn 10000 t (.agg (encVd x).toArray) (.agg (encVd y).toArray)).run P w = .ok (decide (x = y)) w := by
  have hf : P.fieldsOf t = #[f0, f1, f2] := by simp [Program.fieldsOf, hs]
  obtain ⟨x0, x1, x2⟩ := vd_ext x
  obtain ⟨y0, y1, y2⟩ := vd_ext y
  have e0 : (Op.equalIn 9999 tk (.agg (bytesA x.tx.1)) (.agg (bytesA y.tx.1))).run P w = .ok (decide (x.tx.1 = y.tx.1)) w := run_eq_bytes_d w 9997 hk he hc x.tx.1 y.tx.1 x.tx.2 y.tx.2
  have e1 : (Op.equalIn 9999 ti (.int .i64 x.item.1) (.int .i64 y.item.1)).run P w = .ok (x.item.1 == y.item.1) w := run_equalIn_int (P := P) w 9998 ti .i64 .i64 x.item.1 y.item.1 hi
  have e2 : (Op.equalIn 9999 tb (.bool x.good) (.bool y.good)).run P w = .ok (x.good == y.good) w := run_equalIn_bool (P := P) w 9998 tb x.good y.good hb
  have px0 : (part tk (encVd x).toArray 0).run P w = .ok (.agg (bytesA x.tx.1)) w := by rw [run_part_key w hk hct, x0]
  have py0 : (part tk (encVd y).toArray 0).run P w = .ok (.agg (bytesA y.tx.1)) w := by rw [run_part_key w hk hct, y0]
  have px1 := run_part_int w hi (encVd x).toArray 32 _ x1
  have py1 := run_part_int w hi (encVd y).toArray 32 _ y1
  have px2 := part_boolV w hb (encVd x).toArray 33 _ x2
  have py2 := part_boolV w hb (encVd y).toArray 33 _ y2
  subst t0 t1 t2
  rw [show 10000 = 9999 + 1 from rfl, run_equalIn_struct w 9999 t _ _ (by rw [hf]; exact hs) hp, hf]
  have hxy : x = y ↔ x.tx.1 = y.tx.1 ∧ x.item.1 = y.item.1 ∧ x.good = y.good := by
    cases x; cases y
    simp only [VdV.mk.injEq]
    exact ⟨fun h => ⟨congrArg Subtype.val h.1, congrArg Subtype.val h.2.1, h.2.2⟩, fun h => ⟨Subtype.ext h.1, Subtype.ext h.2.1, h.2.2⟩⟩
  have hd : decide (x = y) = (decide (x.tx.1 = y.tx.1) && ((x.item.1 == y.item.1) && (x.good == y.good))) := by
    rw [Bool.eq_iff_iff, decide_eq_true_iff, hxy]
    simp
  rw [hd]
  generalize decide (x.tx.1 = y.tx.1) = b0 at e0 ⊢
  generalize (x.item.1 == y.item.1) = b1 at e1 ⊢
  generalize (x.good == y.good) = b2 at e2 ⊢
  cases b0 <;> cases b1 <;> cases b2 <;> simp [Op.eqFields, n0, n1, n2, o0, o1, o2, px0, py0, px1, py1, px2, py2, e0, e1, e2]
end
theorem eqVd_run (x y : VdV) (V : World) : (Op.equal 37 (.agg (encVd x).toArray) (.agg (encVd y).toArray)).run Try.prog V = .ok (decide (x = y)) V :=
  eqVd_gen (f0 := (Try.prog.fieldsOf 37)[0]!) (f1 := (Try.prog.fieldsOf 37)[1]!) (f2 := (Try.prog.fieldsOf 37)[2]!) V (by kernel_rfl) (by kernel_rfl) (by decide +kernel) (by decide +kernel) (by decide +kernel) (by kernel_rfl) (by kernel_rfl) (by kernel_rfl) (by kernel_rfl) (by kernel_rfl) (by kernel_rfl) Try.underlying27 Try.underlying5 (by kernel_rfl) (by kernel_rfl) Try.underlying3 Try.underlying4 x y
theorem eqVr_run (x y : VdV) (V : World) : (Op.equal 36 (.agg (encVd x).toArray) (.agg (encVd y).toArray)).run Try.prog V = .ok (decide (x = y)) V :=
  eqVd_gen (f0 := (Try.prog.fieldsOf 36)[0]!) (f1 := (Try.prog.fieldsOf 36)[1]!) (f2 := (Try.prog.fieldsOf 36)[2]!) V (by kernel_rfl) (by kernel_rfl) (by decide +kernel) (by decide +kernel) (by decide +kernel) (by kernel_rfl) (by kernel_rfl) (by kernel_rfl) (by kernel_rfl) (by kernel_rfl) (by kernel_rfl) Try.underlying27 Try.underlying5 (by kernel_rfl) (by kernel_rfl) Try.underlying3 Try.underlying4 x y
end Go.Proofs.Ythepiegaoekccaa
