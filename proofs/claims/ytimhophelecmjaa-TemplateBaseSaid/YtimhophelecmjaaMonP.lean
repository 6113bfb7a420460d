/- Money, plain: which amounts may be, and sums that may not. -/
import Derived.WalkKit
namespace Go.Proofs.Ytimhophelecmjaa
/-- there may be so much money -/
def mayB (a : Int) : Bool := decide (0 ≤ a ∧ a ≤ 2100000000000000)
theorem mayB_yes {a : Int} (h : mayB a = true) : 0 ≤ a ∧ a ≤ 2100000000000000 := by simpa [mayB] using h
theorem mayB_no {a : Int} (h : mayB a = false) : a < 0 ∨ 2100000000000000 < a := by
  have : ¬ (0 ≤ a ∧ a ≤ 2100000000000000) := by simpa [mayB] using h
  omega
theorem mayB_mk {a : Int} (h : 0 ≤ a ∧ a ≤ 2100000000000000) : mayB a = true := by simpa [mayB] using h
theorem mayB_mk_no {a : Int} (h : a < 0 ∨ 2100000000000000 < a) : mayB a = false := by
  have : ¬ (0 ≤ a ∧ a ≤ 2100000000000000) := by omega
  simpa [mayB] using this
def addO (t a : Int) : Option Int := if mayB t && mayB a && mayB (t + a) then some (t + a) else none
def subO (t a : Int) : Option Int := if mayB t && mayB a && mayB (t - a) then some (t - a) else none
def sumO : Int → List Int → Option Int
  | t, [] => some t
  | t, a :: l => match addO t a with
    | some s => sumO s l
    | none => none
theorem addO_some {t a s : Int} (h : addO t a = some s) : mayB t = true ∧ mayB a = true ∧ mayB s = true ∧ s = t + a := by
  unfold addO at h
  split at h
  · rename_i h'
    simp only [Bool.and_eq_true] at h'
    injection h with h
    subst h
    exact ⟨h'.1.1, h'.1.2, h'.2, rfl⟩
  · cases h
theorem addO_none {t a : Int} (ht : mayB t = true) (h : addO t a = none) : mayB a = false ∨ (mayB a = true ∧ mayB (t + a) = false) := by
  unfold addO at h
  split at h
  · cases h
  · rename_i h'
    cases ha : mayB a
    · exact .inl rfl
    · refine .inr ⟨rfl, ?_⟩
      cases hs : mayB (t + a)
      · rfl
      · simp [ht, ha, hs] at h'
theorem subO_some {t a s : Int} (h : subO t a = some s) : mayB t = true ∧ mayB a = true ∧ mayB s = true ∧ s = t - a := by
  unfold subO at h
  split at h
  · rename_i h'
    simp only [Bool.and_eq_true] at h'
    injection h with h
    subst h
    exact ⟨h'.1.1, h'.1.2, h'.2, rfl⟩
  · cases h
theorem subO_none {t a : Int} (h : subO t a = none) : mayB t = false ∨ mayB a = false ∨ mayB (t - a) = false := by
  unfold subO at h
  split at h
  · cases h
  · rename_i h'
    cases ht : mayB t
    · exact .inl rfl
    cases ha : mayB a
    · exact .inr (.inl rfl)
    cases hs : mayB (t - a)
    · exact .inr (.inr rfl)
    · simp [ht, ha, hs] at h'
theorem sumO_may : ∀ (l : List Int) (t n : Int), mayB t = true → sumO t l = some n → mayB n = true
  | [], t, n, ht, h => by simp only [sumO, Option.some.injEq] at h; subst h; exact ht
  | a :: l, t, n, ht, h => by
    simp only [sumO] at h
    cases hs : addO t a with
    | none => simp [hs] at h
    | some s => rw [hs] at h; exact sumO_may l s n (addO_some hs).2.2.1 h
theorem sumO_ge : ∀ (l : List Int) (t n : Int), sumO t l = some n → t ≤ n
  | [], t, n, h => by simp only [sumO, Option.some.injEq] at h; omega
  | a :: l, t, n, h => by
    simp only [sumO] at h
    cases hs : addO t a with
    | none => simp [hs] at h
    | some s =>
      rw [hs] at h
      obtain ⟨_, h2, _, rfl⟩ := addO_some hs
      have := sumO_ge l (t + a) n h
      have := (mayB_yes h2).1
      omega
theorem sumO_add {y : Int} : ∀ (l : List Int) (s t : Int), mayB t = true → mayB s = true → sumO s l = some y → sumO t l = (if mayB (t + (y - s)) then some (t + (y - s)) else none)
  | [], s, t, h1, _, hy => by
    simp only [sumO, Option.some.injEq] at hy
    subst hy
    simp [sumO, h1]
  | a :: l, s, t, h1, h2, hy => by
    simp only [sumO] at hy ⊢
    cases ha : addO s a with
    | none => simp [ha] at hy
    | some s2 =>
      rw [ha] at hy
      obtain ⟨_, g2, g3, rfl⟩ := addO_some ha
      have hyy := mayB_yes (sumO_may _ _ _ g3 hy)
      have hmono := sumO_ge l (s + a) y hy
      have h6 := mayB_yes g2
      cases hb : addO t a with
      | none =>
        have h4 : mayB (t + a) = false := by
          rcases addO_none h1 hb with h | h
          · rw [g2] at h; cases h
          · exact h.2
        have h5 := mayB_no h4
        have h8 := mayB_yes h1
        have h7 : mayB (t + (y - s)) = false := mayB_mk_no (.inr (by omega))
        simp [h7]
      | some t2 =>
        obtain ⟨_, _, k3, rfl⟩ := addO_some hb
        simp only [sumO_add l (s + a) (t + a) k3 g3 hy]
        rw [show t + a + (y - (s + a)) = t + (y - s) by omega]
/-- a sum from t on is t and the sum from nought on -/
theorem sumO_from {l : List Int} {t y : Int} (ht : mayB t = true) (hl : sumO 0 l = some y) : sumO t l = addO t y := by
  rw [sumO_add l 0 t ht (by decide) hl]
  have hy : mayB y = true := sumO_may _ _ _ (by decide) hl
  unfold addO
  simp [ht, hy]
/-- if no sum from nought on is, none from t on is -/
theorem sumO_bad : ∀ (l : List Int) (s t : Int), mayB t = true → mayB s = true → s ≤ t → sumO s l = none → sumO t l = none
  | [], s, t, _, _, _, h => by simp [sumO] at h
  | a :: l, s, t, h1, h2, hst, h => by
    simp only [sumO] at h ⊢
    cases hb : addO t a with
    | none => rfl
    | some t2 =>
      obtain ⟨_, g2, k3, rfl⟩ := addO_some hb
      have e1 := mayB_yes k3
      have e2 := mayB_yes g2
      have e3 := mayB_yes h2
      have k4 : mayB (s + a) = true := mayB_mk ⟨by omega, by omega⟩
      have ha : addO s a = some (s + a) := by simp [addO, h2, g2, k4]
      rw [ha] at h
      exact sumO_bad l (s + a) (t + a) k3 k4 (by omega) h
theorem sumO_append : ∀ (l m : List Int) (t : Int), sumO t (l ++ m) = (sumO t l).bind fun s => sumO s m
  | [], m, t => rfl
  | a :: l, m, t => by
    simp only [List.cons_append, sumO]
    cases addO t a with
    | none => rfl
    | some s => exact sumO_append l m s
theorem sumO_snoc (l : List Int) (a t s : Int) (h : sumO t l = some s) : sumO t (l ++ [a]) = addO s a := by
  rw [sumO_append, h]
  show sumO s [a] = _
  simp only [sumO]
  cases addO s a <;> rfl
theorem sumO_none_take {l : List Int} {t : Int} {k : Nat} (h : sumO t (l.take k) = none) : sumO t l = none := by
  rw [← List.take_append_drop k l, sumO_append, h]; rfl
/-- a fee -/
def feeO (a b : List Int) (bal : Int) : Option Int :=
  match sumO 0 a, sumO 0 b with
  | some x, some y => if 0 ≤ bal then (addO x bal).bind fun s => subO s y else (addO y (-bal)).bind fun s => subO x s
  | _, _ => none
def errV : Value := .iface 31 (.int .i64 20)
def errCh : List PanicEntry := [{ v := .iface 31 (.int .i64 20), recovered := false }]
def endO : Option Int → Ending
  | some n => .returned (.int .i64 n)
  | none => .panicked errCh
def valO (o : Option Int) : Int := o.getD 0
def errO : Option Int → Int
  | some _ => 0
  | none => 20
def resO (o : Option Int) : Value := .tuple #[.int .i64 (valO o), .int .i64 (errO o)]
end Go.Proofs.Ytimhophelecmjaa
