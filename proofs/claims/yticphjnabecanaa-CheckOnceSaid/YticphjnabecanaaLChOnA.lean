/- CheckOnce: plain facts. -/
import Derived.Test.YticphjnabecanaaLChMany
namespace Go.Proofs.Yticphjnabecanaa
open Go.RowKit
theorem on_parts {T : TxV} (h : checkF T false = 0) : OkTx T ∧ noneF T = false ∧ coinF T = false ∧ zeroIn T = false := by
  rcases checkF_cases T false with h1 | ⟨_, ok, h2, h3, _, _⟩
  · omega
  · refine ⟨ok, h2, ?_⟩
    unfold coinBad at h3
    cases hc : coinF T <;> cases hz : zeroIn T <;> simp_all
theorem on_base {T : TxV} (h : checkF T false = 0) : checkF T true = 112 := by
  obtain ⟨ok, h2, h3, _⟩ := on_parts h
  exact checkF_coin (by rw [encF_ok _ ok]) h2 (by unfold coinBad; rw [h3]; rfl)
theorem on_twice {α : Type} {l : List α} {x : α} (h : x ∈ l) : ¬ (l ++ [x]).Nodup := by
  intro q
  rw [List.nodup_append] at q
  exact q.2.2 x h x (by simp) rfl
theorem on_ins {T : TxV} (h : checkF T false = 0) {x : PtC} (hx : x ∈ T.ins) :
    (40 < (T.ins ++ [x]).length → checkF { T with ins := T.ins ++ [x] } false = 51) ∧ (¬ 40 < (T.ins ++ [x]).length → checkF { T with ins := T.ins ++ [x] } false = 111) := by
  obtain ⟨ok, h2, h3, h4⟩ := on_parts h
  constructor
  · intro hl
    have e : (encF { T with ins := T.ins ++ [x] }).2 = 51 := by unfold encF; rw [if_pos (.inl hl)]
    rw [checkF_enc (by rw [e]; decide), e]
  · intro hl
    have o2 : OkTx { T with ins := T.ins ++ [x] } := ⟨Nat.le_of_not_lt hl, ok.2.1, ok.2.2.1, ok.2.2.2.1, ok.2.2.2.2⟩
    have e : (encF { T with ins := T.ins ++ [x] }).2 = 0 := by rw [encF_ok _ o2]
    have hz : zeroIn { T with ins := T.ins ++ [x] } = false := by
      unfold zeroIn at h4 ⊢
      rw [List.any_eq_false] at h4 ⊢
      intro y hy
      rcases List.mem_append.1 hy with hy | hy
      · exact h4 y hy
      · rw [List.mem_singleton.1 hy]; exact h4 x hx
    have hn : noneF { T with ins := T.ins ++ [x] } = false := by
      unfold noneF at h2 ⊢
      rw [Bool.or_eq_false_iff, decide_eq_false_iff_not, decide_eq_false_iff_not] at h2 ⊢
      simp only [List.length_append, List.length_cons, List.length_nil]
      exact ⟨by omega, h2.2⟩
    have hc : coinF { T with ins := T.ins ++ [x] } = false := coinF_no _ (by
      have : T.ins.length ≠ 0 := by intro q; rw [List.eq_nil_of_length_eq_zero q] at hx; simp at hx
      show (T.ins ++ [x]).length ≠ 1
      rw [List.length_append, List.length_singleton]; omega)
    refine checkF_twice e hn (by unfold coinBad; rw [hc, hz]; rfl) ?_
    unfold twiceF
    rw [decide_eq_false (on_twice hx)]
    rfl
theorem on_nulls {T : TxV} (h : checkF T false = 0) {x : K32} (hx : x ∈ T.nulls) :
    (40 < (T.nulls ++ [x]).length → checkF { T with nulls := T.nulls ++ [x] } false = 51) ∧ (¬ 40 < (T.nulls ++ [x]).length → checkF { T with nulls := T.nulls ++ [x] } false = 111) := by
  obtain ⟨ok, h2, h3, h4⟩ := on_parts h
  constructor
  · intro hl
    have e : (encF { T with nulls := T.nulls ++ [x] }).2 = 51 := by unfold encF; rw [if_pos (.inr (.inr (.inl hl)))]
    rw [checkF_enc (by rw [e]; decide), e]
  · intro hl
    have o2 : OkTx { T with nulls := T.nulls ++ [x] } := ⟨ok.1, ok.2.1, Nat.le_of_not_lt hl, ok.2.2.2.1, fun q => by simp at q⟩
    have e : (encF { T with nulls := T.nulls ++ [x] }).2 = 0 := by rw [encF_ok _ o2]
    have hn : noneF { T with nulls := T.nulls ++ [x] } = false := by
      unfold noneF at h2 ⊢
      rw [Bool.or_eq_false_iff, decide_eq_false_iff_not, decide_eq_false_iff_not] at h2 ⊢
      simp only [List.length_append, List.length_cons, List.length_nil]
      exact ⟨by omega, h2.2⟩
    refine checkF_twice e hn (show coinBad { T with nulls := T.nulls ++ [x] } false = false by unfold coinBad; rw [show coinF { T with nulls := T.nulls ++ [x] } = false from h3, show zeroIn { T with nulls := T.nulls ++ [x] } = false from h4]; rfl) ?_
    unfold twiceF
    rw [decide_eq_false (on_twice hx)]
    simp
/-- what a changed copy is: n: how many of the kind there were; m: how many there are -/
def OnR (n m : Nat) (T : TxV) : Prop := Some120 T ∧ (n = 0 ∨ checkF T false = 111 ∨ (40 < m ∧ checkF T false = 51))
end Go.Proofs.Yticphjnabecanaa
