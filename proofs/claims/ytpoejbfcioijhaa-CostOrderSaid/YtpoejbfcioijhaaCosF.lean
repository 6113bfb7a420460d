/- Costs: plain facts on picks: in which order, the first, the last, as many draws as a place weighs. -/
import Derived.Test.YtpoejbfcioijhaaCosB
namespace Go.Proofs.Ytpoejbfcioijhaa
open Go.RowKit
def Pos (l : List (IntV .i64)) : Prop := ∀ x ∈ l, 1 ≤ x.1
theorem Pos.tail {z : IntV .i64} {l : List (IntV .i64)} (h : Pos (z :: l)) : Pos l := fun x hx => h x (List.mem_cons_of_mem _ hx)
theorem Pos.sum : ∀ {l : List (IntV .i64)}, Pos l → (l.length : Int) ≤ sumI l
  | [], _ => by simp [sumI]
  | z :: l, h => by
    have h1 := h z (by simp)
    have h2 := Pos.sum h.tail
    simp only [sumI, List.length_cons]
    omega
theorem pickN_lt : ∀ {l : List (IntV .i64)} {n : Int}, 0 ≤ n → n < sumI l → pickN n l < l.length
  | [], n, h0, h1 => by simp [sumI] at h1; omega
  | z :: l, n, h0, h1 => by
    rw [pickN, List.length_cons]
    by_cases h : n < z.1
    · rw [if_pos h]; omega
    · rw [if_neg h]
      simp only [sumI] at h1
      have := pickN_lt (l := l) (n := n - z.1) (by omega) (by omega)
      omega
theorem pickN_zero {l : List (IntV .i64)} (h : Pos l) (hl : l ≠ []) : pickN 0 l = 0 := by
  cases l with
  | nil => exact absurd rfl hl
  | cons z l =>
    have := h z (by simp)
    rw [pickN, if_pos (by omega)]
theorem pickN_mono : ∀ {l : List (IntV .i64)} {a b : Int}, Pos l → a ≤ b → pickN a l ≤ pickN b l
  | [], a, b, _, _ => Nat.le_refl _
  | z :: l, a, b, h, hab => by
    rw [pickN, pickN]
    by_cases h1 : a < z.1
    · rw [if_pos h1]; exact Nat.zero_le _
    · rw [if_neg h1, if_neg (by omega)]
      have := pickN_mono (l := l) (a := a - z.1) (b := b - z.1) h.tail (by omega)
      omega
theorem pickN_last : ∀ {l : List (IntV .i64)}, Pos l → l ≠ [] → pickN (sumI l - 1) l = l.length - 1
  | [], _, h => absurd rfl h
  | z :: l, h, _ => by
    have h1 := h.tail.sum
    rw [pickN, sumI, List.length_cons]
    cases l with
    | nil => rw [if_pos (by simp [sumI]; omega)]; rfl
    | cons y l =>
      have h2 := h.tail y (by simp)
      have h3 := h.tail.tail.sum
      rw [if_neg (by simp only [sumI]; omega), show z.1 + sumI (y :: l) - 1 - z.1 = sumI (y :: l) - 1 by omega, pickN_last h.tail (by simp)]
      simp
/-- how often each place was picked, when all draws below i were made -/
def cntL : Int → List (IntV .i64) → List Int
  | _, [] => []
  | i, z :: l => min i z.1 :: cntL (max (i - z.1) 0) l
theorem cntL_len : ∀ (l : List (IntV .i64)) (i : Int), (cntL i l).length = l.length
  | [], _ => rfl
  | z :: l, i => by rw [cntL, List.length_cons, List.length_cons, cntL_len l]
theorem cntL_zero : ∀ {l : List (IntV .i64)}, Pos l → cntL 0 l = List.replicate l.length 0
  | [], _ => rfl
  | z :: l, h => by
    have h1 := h z (by simp)
    rw [cntL, List.length_cons, List.replicate_succ, show min (0 : Int) z.1 = 0 by omega, show max ((0 : Int) - z.1) 0 = 0 by omega, cntL_zero h.tail]
theorem cntL_next : ∀ {l : List (IntV .i64)} {i : Int}, Pos l → 0 ≤ i → i < sumI l → cntL (i + 1) l = (cntL i l).set (pickN i l) ((cntL i l).getD (pickN i l) 0 + 1)
  | [], i, _, h0, h1 => by simp [sumI] at h1; omega
  | z :: l, i, h, h0, h1 => by
    have h2 := h z (by simp)
    simp only [sumI] at h1
    rw [cntL, cntL, pickN]
    by_cases hz : i < z.1
    · rw [if_pos hz, show min (i + 1) z.1 = i + 1 by omega, show min i z.1 = i by omega, show max (i + 1 - z.1) 0 = 0 by omega, show max (i - z.1) 0 = 0 by omega]
      simp
    · rw [if_neg hz, show min (i + 1) z.1 = z.1 by omega, show min i z.1 = z.1 by omega, show max (i + 1 - z.1) 0 = (i - z.1) + 1 by omega, show max (i - z.1) 0 = i - z.1 by omega]
      rw [cntL_next h.tail (by omega) (by omega)]
      simp
theorem cntL_full : ∀ {l : List (IntV .i64)}, Pos l → cntL (sumI l) l = l.map (fun z => z.1)
  | [], _ => rfl
  | z :: l, h => by
    have h1 := h.tail.sum
    rw [cntL, sumI, List.map_cons, show min (z.1 + sumI l) z.1 = z.1 by omega, show max (z.1 + sumI l - z.1) 0 = sumI l by omega, cntL_full h.tail]
theorem cntL_rng : ∀ (l : List (IntV .i64)) (i : Int), Pos l → 0 ≤ i → ∀ x ∈ cntL i l, 0 ≤ x ∧ x ≤ i
  | [], _, _, _, x, hx => by simp [cntL] at hx
  | z :: l, i, h, h0, x, hx => by
    have h2 := h z (by simp)
    rw [cntL, List.mem_cons] at hx
    rcases hx with rfl | hx
    · omega
    · have := cntL_rng l (max (i - z.1) 0) h.tail (by omega) x hx
      omega
theorem pos_ok {l : List (IntV .i64)} (h : Pos l) (hu : ∀ x ∈ l, x.1 ≤ 1000) : l.all okW = true := by
  rw [List.all_eq_true]
  intro x hx
  have h1 := h x hx
  have h2 := hu x hx
  unfold okW
  rw [Bool.and_eq_true, Bool.not_eq_true', Bool.not_eq_true', decide_eq_false_iff_not, decide_eq_false_iff_not]
  omega
theorem pick_ok {l : List (IntV .i64)} (h : Pos l) (hu : ∀ x ∈ l, x.1 ≤ 1000) (hl : l.length ≤ 1000) (hn : l ≠ []) (d : Int) : pickV l d = .tuple #[.int .i64 ((pickN (d.tmod (sumI l)) l : Nat) : Int), .bool true] := by
  have hs : sumI l ≠ 0 := by
    have h1 := h.sum
    have h2 := List.length_pos_iff.2 hn
    omega
  unfold pickV pickW
  rw [sumW_ok (pos_ok h hu) hl]
  simp only [hs, if_false]
  rfl
theorem pick_in {l : List (IntV .i64)} (h : Pos l) (hu : ∀ x ∈ l, x.1 ≤ 1000) (hl : l.length ≤ 1000) (hn : l ≠ []) {d : Int} (h0 : 0 ≤ d) (h1 : d < sumI l) : pickV l d = .tuple #[.int .i64 ((pickN d l : Nat) : Int), .bool true] := by
  rw [pick_ok h hu hl hn, Int.tmod_eq_of_lt h0 h1]
theorem sum_ok {l : List (IntV .i64)} (h : Pos l) (hu : ∀ x ∈ l, x.1 ≤ 1000) (hl : l.length ≤ 1000) : sumV l = .tuple #[.int .i64 (sumI l), .bool true] := by
  unfold sumV
  rw [sumW_ok (pos_ok h hu) hl]
  rfl
theorem sumI_le {c : Int} : ∀ {l : List (IntV .i64)}, (∀ x ∈ l, x.1 ≤ c) → sumI l ≤ c * l.length
  | [], _ => by simp [sumI]
  | z :: l, h => by
    have h1 := h z (by simp)
    have h2 := sumI_le (l := l) (fun x hx => h x (List.mem_cons_of_mem _ hx))
    have e : ((z :: l).length : Int) = (l.length : Int) + 1 := by simp
    rw [e, Int.mul_add, Int.mul_one]
    simp only [sumI]
    omega
end Go.Proofs.Ytpoejbfcioijhaa
