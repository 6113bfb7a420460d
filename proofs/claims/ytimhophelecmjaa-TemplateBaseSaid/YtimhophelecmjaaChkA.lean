/- Checks: plain; what is assumed of the project's. -/
import Derived.Test.YtimhophelecmjaaTxAllC
import Derived.Test.YtimhophelecmjaaCellB
import Derived.Test.YtimhophelecmjaaKeyF
import Derived.Test.YtimhophelecmjaaMonR
namespace Go.Proofs.Ytimhophelecmjaa
open Go.RowKit
abbrev PtC := K32 × IntV .u32
def valsF (T : TxV) : List Int := T.outs.map fun o => o.1.1
def valsV (T : TxV) : List (IntV .i64) := T.outs.map (·.1)
theorem vals_cells (T : TxV) : cellsOf (enc1 .i64) (valsV T) = ints (valsF T) := by
  unfold cellsOf enc1 ints valsV valsF
  induction T.outs with
  | nil => rfl
  | cons o os ih => simp only [List.map_cons, List.flatMap_cons, ih]; rfl
theorem valsV_len (T : TxV) : (valsV T).length = T.outs.length := by unfold valsV; rw [List.length_map]
def zeroIn (T : TxV) : Bool := T.ins.any fun p => decide (p.1 = zeroKey)
def fightF (S T : TxV) : Bool := (S.ins.any fun p => decide (p ∈ T.ins)) || meetF S.nulls T.nulls
def balF (T : TxV) : Bool := decide (T.bal.1 < -2100000000000000) || decide (2100000000000000 < T.bal.1) || (decide (0 < T.bal.1) && decide (T.nulls.length = 0)) || (decide (T.bal.1 < 0) && decide (T.notes.length = 0))
def moneyF (T : TxV) : Bool := (sumO 0 (valsF T)).isNone || balF T
def noneF (T : TxV) : Bool := decide (T.ins.length + T.nulls.length = 0) || decide (T.outs.length + T.notes.length = 0)
def coinBad (T : TxV) (b : Bool) : Bool := (coinF T != b) || (b && decide (0 < T.nulls.length)) || (!b && zeroIn T)
def twiceF (T : TxV) : Bool := !(decide T.ins.Nodup) || !(decide T.nulls.Nodup)
def checkF (T : TxV) (b : Bool) : Int :=
  if (encF T).2 ≠ 0 then (encF T).2 else if noneF T then 110 else if coinBad T b then 112 else if twiceF T then 111 else if moneyF T then 20 else 0
structure Some120 (T : TxV) : Prop where
  i : T.ins.length ≤ 120
  o : T.outs.length ≤ 120
  n : T.nulls.length ≤ 120
  t : T.notes.length ≤ 120
/- plain: what the laws say -/
theorem chMeet_comm (l m : List K32) : meetF l m = meetF m l := by
  unfold meetF
  rw [Bool.eq_iff_iff, List.any_eq_true, List.any_eq_true]
  exact ⟨fun ⟨x, h1, h2⟩ => ⟨x, of_decide_eq_true h2, decide_eq_true h1⟩, fun ⟨x, h1, h2⟩ => ⟨x, of_decide_eq_true h2, decide_eq_true h1⟩⟩
theorem fight_symm (S T : TxV) : fightF S T = fightF T S := by
  have h : ∀ (l m : List PtC), (l.any fun p => decide (p ∈ m)) = (m.any fun p => decide (p ∈ l)) := fun l m => by
    rw [Bool.eq_iff_iff]
    simp only [List.any_eq_true, decide_eq_true_iff]
    exact ⟨fun ⟨x, h1, h2⟩ => ⟨x, h2, h1⟩, fun ⟨x, h1, h2⟩ => ⟨x, h2, h1⟩⟩
  unfold fightF
  rw [h, chMeet_comm]
theorem fight_self (T : TxV) : fightF T T = decide (0 < T.ins.length + T.nulls.length) := by
  have h1 : (T.ins.any fun p => decide (p ∈ T.ins)) = decide (0 < T.ins.length) := by
    cases T.ins with
    | nil => rfl
    | cons x l => simp
  have h2 : (T.nulls.any fun p => decide (p ∈ T.nulls)) = decide (0 < T.nulls.length) := by
    cases T.nulls with
    | nil => rfl
    | cons x l => simp
  unfold fightF meetF
  rw [h1, h2, Bool.eq_iff_iff, Bool.or_eq_true, decide_eq_true_iff, decide_eq_true_iff, decide_eq_true_iff]
  omega
theorem checkF_cases (T : TxV) (b : Bool) : (checkF T b = 51 ∨ checkF T b = 1 ∨ checkF T b = 110 ∨ checkF T b = 112 ∨ checkF T b = 111 ∨ checkF T b = 20) ∨ (checkF T b = 0 ∧ OkTx T ∧ noneF T = false ∧ coinBad T b = false ∧ twiceF T = false ∧ moneyF T = false) := by
  unfold checkF
  rcases encF_cases T with ⟨h, e⟩ | e | e
  · rw [e]
    simp only [ne_eq, not_true_eq_false, if_false]
    cases h1 : noneF T with
    | true => simp
    | false =>
      cases h2 : coinBad T b with
      | true => simp
      | false =>
        cases h3 : twiceF T with
        | true => simp
        | false =>
          cases h4 : moneyF T with
          | true => simp
          | false => right; exact ⟨by simp, h, rfl, rfl, rfl, rfl⟩
  · rw [e]; simp
  · rw [e]; simp
theorem check_spends {T : TxV} {b : Bool} (h : checkF T b = 0) : 0 < T.ins.length + T.nulls.length := by
  rcases checkF_cases T b with h1 | ⟨_, _, h2, _⟩
  · omega
  · unfold noneF at h2
    rw [Bool.or_eq_false_iff, decide_eq_false_iff_not, decide_eq_false_iff_not] at h2
    omega
theorem check_bal {T : TxV} (h : checkF T false = 0) (z : IntV .i64) (hz : -2100000000000000 ≤ z.1 ∧ z.1 ≤ 2100000000000000) :
    checkF { T with bal := z } false = if (decide (0 < z.1) && decide (T.nulls.length = 0)) || (decide (z.1 < 0) && decide (T.notes.length = 0)) then 20 else 0 := by
  rcases checkF_cases T false with h1 | ⟨_, ok, h2, h3, h4, h5⟩
  · omega
  · have e1 : (encF { T with bal := z }).2 = 0 := by rw [encF_ok _ (show OkTx { T with bal := z } from ok)]
    have e2 : noneF { T with bal := z } = false := h2
    have e3 : coinBad { T with bal := z } false = false := h3
    have e4 : twiceF { T with bal := z } = false := h4
    have e5 : (sumO 0 (valsF T)).isNone = false := by
      unfold moneyF at h5
      exact (Bool.or_eq_false_iff.1 h5).1
    have e6 : moneyF { T with bal := z } = ((decide (0 < z.1) && decide (T.nulls.length = 0)) || (decide (z.1 < 0) && decide (T.notes.length = 0))) := by
      unfold moneyF balF
      show ((sumO 0 (valsF T)).isNone || _) = _
      rw [e5, decide_eq_false (by show ¬ z.1 < -2100000000000000; omega), decide_eq_false (by show ¬ 2100000000000000 < z.1; omega)]
      simp
    unfold checkF
    rw [if_neg (by rw [e1]; simp), e2, e3, e4, e6]
    simp
end Go.Proofs.Ytimhophelecmjaa
