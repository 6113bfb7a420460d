/- A coin: its cells, its types, '=='. -/
import Derived.Test.YtkjgmhamglhggaaCoiP
import Derived.Test.YtkjgmhamglhggaaTxAllA
namespace Go.Proofs.Ytkjgmhamglhggaa
open Go.RowKit
structure CoinV where
  at_ : K32 × IntV .u32
  out : IntV .i64 × K32
  h : IntV .u32
  b : Bool
deriving DecidableEq
def encC (c : CoinV) : List Value := encKI .u32 c.at_ ++ (encIK .i64 c.out ++ [.int .u32 c.h.1, .bool c.b])
theorem encC_len (c : CoinV) : (encC c).length = 68 := by unfold encC; rw [List.length_append, List.length_append, encKI_len, encIK_len]; rfl
theorem encC_one (c : CoinV) : ∀ v ∈ encC c, v.oneCell' = true := by
  intro v hv
  unfold encC at hv
  rcases List.mem_append.1 hv with h | h
  · exact encKI_one _ _ v h
  · rcases List.mem_append.1 h with h | h
    · exact encIK_one _ _ v h
    · simp only [List.mem_cons, List.not_mem_nil, or_false] at h
      rcases h with rfl | rfl <;> rfl
theorem tyCo : RowTy Try.prog 22 49 encC 68 := ⟨Try.underlying22, by kernel_rfl, encC_len, encC_one, Try.isAgg49, by omega⟩
theorem tyCr : RowTy Try.prog 38 52 encC 68 := ⟨Try.underlying38, by kernel_rfl, encC_len, encC_one, Try.isAgg52, by omega⟩
theorem tyCoc : CellTy Try.prog 49 encC 68 := ⟨tyCo.size, tyCo.len, tyCo.one, tyCo.agg⟩
theorem tyCrc : CellTy Try.prog 52 encC 68 := ⟨tyCr.size, tyCr.len, tyCr.one, tyCr.agg⟩
theorem tyPc : CellTy Try.prog 32 (encKI .u32) 33 := ⟨tyPt.size, tyPt.len, tyPt.one, tyPt.agg⟩
section
variable {w : World} {g o : Nat} {c : CoinV}
theorem RowC.co_at (h : RowC w g o (encC c)) : RowC w g o (encKI .u32 c.at_) := h.left
theorem RowC.co_out (h : RowC w g o (encC c)) : RowC w g (o + 33) (encIK .i64 c.out) := by
  have := h.right.left
  rwa [encKI_len] at this
theorem RowC.co_h (h : RowC w g o (encC c)) : w.cell? ⟨g, o + 66, none⟩ = some (.int .u32 c.h.1) := by
  have := h.right.right.head
  rwa [encKI_len, encIK_len] at this
theorem RowC.co_b (h : RowC w g o (encC c)) : w.cell? ⟨g, o + 67, none⟩ = some (.bool c.b) := by
  have := h.right.right.tail.head
  rwa [encKI_len, encIK_len] at this
end
section
variable {P : Program} (w : World) {t tk ti e : TypeId} {f0 f1 : Field} {q : IntKind}
theorem run_eq_KI_d (d : Nat) (hs : P.underlying t = some (.struct #[f0, f1])) (hp : P.stoodInHeld t = false) (n0 : f0.name ≠ "_") (n1 : f1.name ≠ "_") (o0 : f0.offset = 0) (o1 : f1.offset = 32) (t0 : f0.type = tk) (t1 : f1.type = ti)
    (hk : P.underlying tk = some (.array 32 e)) (he : P.underlying e = some (.int .u8)) (hc : P.cellsOf e = 1) (hct : P.cellsOf tk = 32) (hi : P.underlying ti = some (.int q)) (x y : K32 × IntV q) :
    (Op.equalIn (d + 3) t (.agg (encKI q x).toArray) (.agg (encKI q y).toArray)).run P w = .ok (decide (x = y)) w := by
  have hf : P.fieldsOf t = #[f0, f1] := by simp [Program.fieldsOf, hs]
  have e1 : (Op.equalIn (d + 2) tk (.agg (bytesA x.1.1)) (.agg (bytesA y.1.1))).run P w = .ok (decide (x.1.1 = y.1.1)) w := run_eq_bytes_d w d hk he hc x.1.1 y.1.1 x.1.2 y.1.2
  have e2 : (Op.equalIn (d + 2) ti (.int q x.2.1) (.int q y.2.1)).run P w = .ok (x.2.1 == y.2.1) w := run_equalIn_int (P := P) w (d + 1) ti q q x.2.1 y.2.1 hi
  have px : (part tk (encKI q x).toArray 0).run P w = .ok (.agg (bytesA x.1.1)) w := by rw [run_part_key w hk hct, ki_key]
  have py : (part tk (encKI q y).toArray 0).run P w = .ok (.agg (bytesA y.1.1)) w := by rw [run_part_key w hk hct, ki_key]
  have qx := run_part_int w hi (encKI q x).toArray 32 _ (ki_int x)
  have qy := run_part_int w hi (encKI q y).toArray 32 _ (ki_int y)
  subst t0 t1
  rw [show d + 3 = (d + 2) + 1 from rfl, run_equalIn_struct w (d + 2) t _ _ (by rw [hf]; exact hs) hp, hf]
  have hxy : x = y ↔ x.1.1 = y.1.1 ∧ x.2.1 = y.2.1 := ⟨fun h => h ▸ ⟨rfl, rfl⟩, fun h => Prod.ext (Subtype.ext h.1) (Subtype.ext h.2)⟩
  have hd : decide (x = y) = (decide (x.1.1 = y.1.1) && (x.2.1 == y.2.1)) := by
    rw [Bool.eq_iff_iff, decide_eq_true_iff, hxy, Bool.and_eq_true, decide_eq_true_iff, beq_iff_eq]
  rw [hd]
  generalize decide (x.1.1 = y.1.1) = b1 at e1 ⊢
  generalize (x.2.1 == y.2.1) = b2 at e2 ⊢
  cases b1 <;> cases b2 <;> simp [Op.eqFields, n0, n1, o0, o1, px, py, qx, qy, e1, e2]
theorem run_eq_IK_d (d : Nat) (hs : P.underlying t = some (.struct #[f0, f1])) (hp : P.stoodInHeld t = false) (n0 : f0.name ≠ "_") (n1 : f1.name ≠ "_") (o0 : f0.offset = 0) (o1 : f1.offset = 1) (t0 : f0.type = ti) (t1 : f1.type = tk)
    (hk : P.underlying tk = some (.array 32 e)) (he : P.underlying e = some (.int .u8)) (hc : P.cellsOf e = 1) (hct : P.cellsOf tk = 32) (hi : P.underlying ti = some (.int q)) (x y : IntV q × K32) :
    (Op.equalIn (d + 3) t (.agg (encIK q x).toArray) (.agg (encIK q y).toArray)).run P w = .ok (decide (x = y)) w := by
  have hf : P.fieldsOf t = #[f0, f1] := by simp [Program.fieldsOf, hs]
  have e1 : (Op.equalIn (d + 2) tk (.agg (bytesA x.2.1)) (.agg (bytesA y.2.1))).run P w = .ok (decide (x.2.1 = y.2.1)) w := run_eq_bytes_d w d hk he hc x.2.1 y.2.1 x.2.2 y.2.2
  have e2 : (Op.equalIn (d + 2) ti (.int q x.1.1) (.int q y.1.1)).run P w = .ok (x.1.1 == y.1.1) w := run_equalIn_int (P := P) w (d + 1) ti q q x.1.1 y.1.1 hi
  have px : (part tk (encIK q x).toArray 1).run P w = .ok (.agg (bytesA x.2.1)) w := by rw [run_part_key w hk hct, ik_key]
  have py : (part tk (encIK q y).toArray 1).run P w = .ok (.agg (bytesA y.2.1)) w := by rw [run_part_key w hk hct, ik_key]
  have qx := run_part_int w hi (encIK q x).toArray 0 _ (ik_int x)
  have qy := run_part_int w hi (encIK q y).toArray 0 _ (ik_int y)
  subst t0 t1
  rw [show d + 3 = (d + 2) + 1 from rfl, run_equalIn_struct w (d + 2) t _ _ (by rw [hf]; exact hs) hp, hf]
  have hxy : x = y ↔ x.1.1 = y.1.1 ∧ x.2.1 = y.2.1 := ⟨fun h => h ▸ ⟨rfl, rfl⟩, fun h => Prod.ext (Subtype.ext h.1) (Subtype.ext h.2)⟩
  have hd : decide (x = y) = (decide (x.2.1 = y.2.1) && (x.1.1 == y.1.1)) := by
    rw [Bool.eq_iff_iff, decide_eq_true_iff, hxy, Bool.and_eq_true, decide_eq_true_iff, beq_iff_eq]; exact and_comm
  rw [hd]
  generalize decide (x.2.1 = y.2.1) = b1 at e1 ⊢
  generalize (x.1.1 == y.1.1) = b2 at e2 ⊢
  cases b1 <;> cases b2 <;> simp [Op.eqFields, n0, n1, o0, o1, px, py, qx, qy, e1, e2]
end
end Go.Proofs.Ytkjgmhamglhggaa
