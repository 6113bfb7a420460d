/- CheckBase: plain facts. -/
import Derived.Test.YtimhophelecmjaaLChMany
namespace Go.Proofs.Ytimhophelecmjaa
open Go.RowKit
abbrev OutB := IntV .i64 × K32
theorem wf_u32r (z : IntV .u32) : 0 ≤ z.1 ∧ z.1 < 4294967296 := wf_u32.1 z.2
def v32 (z : IntV .u32) : IntV .i64 := ⟨z.1, wf_i64.2 (by have := wf_u32r z; omega)⟩
def o32 (k : K32) (z : IntV .u32) : OutB := (v32 z, k)
def bT (z : IntV .u32) (O : List OutB) (M : List K32) (Z : List K32) : TxV := { txZero with ins := [(zeroKey, z)], outs := O, nulls := M, notes := Z }
theorem bT_ok (z : IntV .u32) (O : List OutB) (M Z : List K32) (h : O.length ≤ 30) (hM : M.length ≤ 1) (hZ : Z.length ≤ 1) : OkTx (bT z O M Z) :=
  ⟨show ([(zeroKey, z)] : List PtC).length ≤ 40 by simp, show O.length ≤ 40 by omega, show M.length ≤ 40 by omega, show Z.length ≤ 40 by omega, fun _ => rfl⟩
theorem bT_coin (z : IntV .u32) (O : List OutB) (M Z : List K32) : coinF (bT z O M Z) = true := by
  show decide (zeroKey = zeroKey) = true
  simp
theorem bsum : ∀ (l : List (IntV .u32)) (t n : Nat), l.length ≤ n → n ≤ 30 → t + n * 4294967296 ≤ 200000000000 → (sumO t (l.map fun z => (v32 z).1)).isNone = false
  | [], _, _, _, _, _ => rfl
  | z :: l, t, n, h, hn, ht => by
    have hz := wf_u32r z
    obtain ⟨m, rfl⟩ : ∃ m, n = m + 1 := ⟨n - 1, by simp at h; omega⟩
    have e : addO (t : Int) (v32 z).1 = some ((t + z.1.toNat : Nat) : Int) := by
      have h1 : ((t + z.1.toNat : Nat) : Int) = (t : Int) + z.1 := by omega
      rw [h1]
      show addO (t : Int) z.1 = _
      unfold addO mayB
      simp
      omega
    simp only [List.map_cons, sumO, e]
    exact bsum l (t + z.1.toNat) m (by simpa using h) (by omega) (by omega)
theorem bT_money (z : IntV .u32) (k : K32) (zs : List (IntV .u32)) (h : zs.length ≤ 30) : moneyF (bT z (zs.map (o32 k)) [] []) = false := by
  have e : valsF (bT z (zs.map (o32 k)) [] []) = zs.map fun z => (v32 z).1 := by
    show (zs.map (o32 k)).map (fun o => o.1.1) = _
    rw [List.map_map]
    rfl
  unfold moneyF
  rw [e, show (sumO 0 (zs.map fun z => (v32 z).1)).isNone = false from bsum zs 0 30 h (Nat.le_refl _) (by decide)]
  rfl
theorem base_ok (z : IntV .u32) (k : K32) (zs : List (IntV .u32)) (h : zs.length ≤ 30) (h0 : 0 < zs.length) : checkF (bT z (zs.map (o32 k)) [] []) true = 0 := by
  refine checkF_ok (by rw [encF_ok _ (bT_ok z _ [] [] (by rw [List.length_map]; omega) (by decide) (by decide))]) ?_ ?_ ?_ (bT_money z k zs h)
  · show (decide (([(zeroKey, z)] : List PtC).length + ([] : List K32).length = 0) || decide ((zs.map (o32 k)).length + ([] : List K32).length = 0)) = false
    rw [List.length_map, Bool.or_eq_false_iff, decide_eq_false_iff_not, decide_eq_false_iff_not]
    simp; intro q; rw [q] at h0; simp at h0
  · unfold coinBad
    rw [bT_coin]
    rfl
  · show (!(decide ([(zeroKey, z)] : List PtC).Nodup) || !(decide ([] : List K32).Nodup)) = false
    simp
theorem base_none (z : IntV .u32) (O : List OutB) (h0 : O.length = 0) : checkF (bT z O [] []) true = 110 := by
  refine checkF_none (by rw [encF_ok _ (bT_ok z _ [] [] (by omega) (by decide) (by decide))]) ?_
  show (decide (([(zeroKey, z)] : List PtC).length + ([] : List K32).length = 0) || decide (O.length + ([] : List K32).length = 0)) = true
  rw [h0]; rfl
theorem base_not (z : IntV .u32) (O : List OutB) (h : O.length ≤ 30) (h0 : 0 < O.length) : checkF (bT z O [] []) false = 112 := by
  refine checkF_coin (by rw [encF_ok _ (bT_ok z _ [] [] h (by decide) (by decide))]) ?_ ?_
  · show (decide (([(zeroKey, z)] : List PtC).length + ([] : List K32).length = 0) || decide (O.length + ([] : List K32).length = 0)) = false
    rw [Bool.or_eq_false_iff, decide_eq_false_iff_not, decide_eq_false_iff_not]
    exact ⟨by simp, by simp; intro q; rw [q] at h0; simp at h0⟩
  · unfold coinBad
    rw [bT_coin]
    rfl
theorem base_nulls (z : IntV .u32) (O : List OutB) (k : K32) (h : O.length ≤ 30) : checkF (bT z O [k] [k]) true = 112 := by
  refine checkF_coin (by rw [encF_ok _ (bT_ok z _ [k] [k] h (by simp) (by simp))]) ?_ ?_
  · show (decide (([(zeroKey, z)] : List PtC).length + ([k] : List K32).length = 0) || decide (O.length + ([k] : List K32).length = 0)) = false
    rw [Bool.or_eq_false_iff, decide_eq_false_iff_not, decide_eq_false_iff_not]
    simp
  · unfold coinBad
    rw [bT_coin]
    show ((true != true) || (true && decide (0 < ([k] : List K32).length)) || _) = true
    simp
end Go.Proofs.Ytimhophelecmjaa
