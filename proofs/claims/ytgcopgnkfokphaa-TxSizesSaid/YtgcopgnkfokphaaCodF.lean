/- The anchors of codec's statements, and what they lean on, plain. -/
import Derived.Test.YtgcopgnkfokphaaCodV
import Derived.Test.YtgcopgnkfokphaaCodU
import Derived.Test.YtgcopgnkfokphaaGuard
import Derived.Test.YtgcopgnkfokphaaStr
namespace Go.Proofs.Ytgcopgnkfokphaa
open Go.RowKit
theorem getF_put (n w : Nat) (rest : List UInt8) (h1 : 1 ≤ w) (h8 : w ≤ 8) : getF (putL n w ++ rest) w = (n % 2 ^ (8 * w), rest, 0) := by
  have hl := putL_len n w
  unfold getF
  rw [if_neg (by omega), if_neg (by rw [List.length_append]; omega), Int.toNat_natCast, List.take_append_of_le_length (by omega), List.take_of_length_le (by omega), List.drop_append_of_le_length (by omega), List.drop_of_length_le (by omega), getN_putL]
  rfl
theorem markF_put (n m : Nat) (rest : List UInt8) (hn : n < 2 ^ (8 * m)) : markF (putL n m ++ rest) m = if wdN n < m then (0, [], 31) else (n, rest, 0) := by
  have hl := putL_len n m
  unfold markF
  rw [if_neg (by rw [List.length_append]; omega), List.take_append_of_le_length (by omega), List.take_of_length_le (by omega), List.drop_append_of_le_length (by omega), List.drop_of_length_le (by omega), getN_putL, Nat.mod_eq_of_lt hn]
  rfl
theorem readF_cmp (n : Nat) (rest : List UInt8) (hn : n < 2 ^ 64) : readF (cmpL n ++ rest) = (n, rest, 0) := by
  by_cases h1 : n < 253
  · rw [show cmpL n = [UInt8.ofNat n] by simp [cmpL, h1, putL, putB]]
    have hb : (UInt8.ofNat n).toNat = n := by rw [UInt8.toNat_ofNat']; omega
    simp [readF, hb, h1]
  by_cases h2 : n ≤ 65535
  · rw [show cmpL n = 253 :: putL n 2 by simp [cmpL, h1, h2], List.cons_append, readF_mark 253 _ (by decide), show wideL 253 = 2 from rfl, markF_put n 2 rest (by omega), if_neg (by simp [wdN, h1, h2])]
  by_cases h3 : n ≤ 4294967295
  · rw [show cmpL n = 254 :: putL n 4 by simp [cmpL, h1, h2, h3], List.cons_append, readF_mark 254 _ (by decide), show wideL 254 = 4 from rfl, markF_put n 4 rest (by omega), if_neg (by simp [wdN, h1, h2, h3])]
  rw [show cmpL n = 255 :: putL n 8 by simp [cmpL, h1, h2, h3], List.cons_append, readF_mark 255 _ (by decide), show wideL 255 = 8 from rfl, markF_put n 8 rest (by omega), if_neg (by simp [wdN, h1, h2, h3])]
/-- what the marks of a number are -/
theorem cmpL_wide (b : UInt8) (n : Nat) (hb : ¬ b.toNat < 253) (hn : n < 2 ^ (8 * wideL b)) (hw : ¬ wdN n < wideL b) : cmpL n = b :: putL n (wideL b) := by
  have hb2 := b.toNat_lt
  have h3 : b = 253 ∨ b = 254 ∨ b = 255 := by
    have : b.toNat = 253 ∨ b.toNat = 254 ∨ b.toNat = 255 := by omega
    rcases this with e | e | e
    · exact .inl (UInt8.toNat_inj.mp e)
    · exact .inr (.inl (UInt8.toNat_inj.mp e))
    · exact .inr (.inr (UInt8.toNat_inj.mp e))
  unfold wdN at hw
  rcases h3 with rfl | rfl | rfl
  · rw [show wideL 253 = 2 from rfl] at hn hw ⊢
    by_cases h1 : n < 253
    · simp [h1] at hw
    simp [cmpL, h1, show n ≤ 65535 by omega]
  · rw [show wideL 254 = 4 from rfl] at hn hw ⊢
    by_cases h1 : n < 253
    · simp [h1] at hw
    by_cases h2 : n ≤ 65535
    · simp [h1, h2] at hw
    simp [cmpL, h1, h2, show n ≤ 4294967295 by omega]
  · rw [show wideL 255 = 8 from rfl] at hn hw ⊢
    by_cases h1 : n < 253
    · simp [h1] at hw
    by_cases h2 : n ≤ 65535
    · simp [h1, h2] at hw
    by_cases h4 : n ≤ 4294967295
    · simp [h1, h2, h4] at hw
    simp [cmpL, h1, h2, h4]
/-- what is read, or which error -/
theorem readF_cases (l : List UInt8) : (∃ n r, readF l = (n, r, 0) ∧ cmpL n ++ r = l ∧ n < 2 ^ 64) ∨ readF l = (0, [], 30) ∨ readF l = (0, [], 31) := by
  cases l with
  | nil => exact .inr (.inl rfl)
  | cons b t =>
    by_cases hb : b.toNat < 253
    · refine .inl ⟨b.toNat, t, by simp [readF, hb], ?_, by omega⟩
      simp [cmpL, hb, putL, putB]
    · rw [readF_mark b t hb]
      unfold markF
      by_cases h1 : t.length < wideL b
      · exact .inr (.inl (by rw [if_pos h1]))
      by_cases h2 : wdN (getN (t.take (wideL b))) < wideL b
      · exact .inr (.inr (by rw [if_neg h1, if_pos h2]))
      refine .inl ⟨getN (t.take (wideL b)), t.drop (wideL b), by rw [if_neg h1, if_neg h2], ?_, ?_⟩
      · rw [cmpL_wide b _ hb (take_lt _ _) h2]
        have hl : (t.take (wideL b)).length = wideL b := by rw [List.length_take]; omega
        have := putL_getN (t.take (wideL b))
        rw [hl] at this
        rw [this, List.cons_append, List.take_append_drop]
      · refine Nat.lt_of_lt_of_le (take_lt t (wideL b)) (Nat.pow_le_pow_right (by omega) ?_)
        unfold wideL; split <;> (try split) <;> omega
theorem readF_cut (n i : Nat) (hi : i < (cmpL n).length) : readF ((cmpL n).take i) = (0, [], 30) := by
  cases i with
  | zero => rfl
  | succ i =>
    by_cases h1 : n < 253
    · rw [cmpL_len, if_pos h1] at hi; omega
    have key : ∀ (b : UInt8) (m : Nat), ¬ b.toNat < 253 → wideL b = m → cmpL n = b :: putL n m → readF ((cmpL n).take (i + 1)) = (0, [], 30) := by
      intro b m hb hm hc
      rw [hc] at hi ⊢
      rw [List.length_cons, putL_len] at hi
      rw [List.take_succ_cons, readF_mark b _ hb, hm]
      unfold markF
      rw [if_pos (by rw [List.length_take, putL_len]; omega)]
    by_cases h2 : n ≤ 65535
    · exact key 253 2 (by decide) rfl (by simp [cmpL, h1, h2])
    by_cases h3 : n ≤ 4294967295
    · exact key 254 4 (by decide) rfl (by simp [cmpL, h1, h2, h3])
    · exact key 255 8 (by decide) rfl (by simp [cmpL, h1, h2, h3])
theorem readF_long (b : UInt8) (m n : Nat) (rest : List UInt8) (hb : ¬ b.toNat < 253) (hm : wideL b = m) (hn : n < 2 ^ (8 * m)) (hw : wdN n < m) : readF (b :: putL n m ++ rest) = (0, [], 31) := by
  rw [List.cons_append, readF_mark b _ hb, hm, markF_put n m rest hn, if_pos hw]
theorem keyF_put (l rest : List UInt8) (hl : l.length = 32) : keyF (l ++ rest) = (l, rest, 0) := by
  unfold keyF
  rw [if_neg (by rw [List.length_append]; omega), List.take_append_of_le_length (by omega), List.take_of_length_le (by omega), List.drop_append_of_le_length (by omega), List.drop_of_length_le (by omega)]
  rfl
theorem putL_parts (n w : Nat) (h : w ≤ 8) : putL n w ++ putL (n / 2 ^ (8 * w)) (8 - w) = putL n 8 := by
  apply List.ext_getElem
  · rw [List.length_append, putL_len, putL_len, putL_len]; omega
  · intro i h1 h2
    rw [putL_len] at h2
    rw [List.getElem_append]
    split
    · simp [putL]
    · rename_i h3
      rw [putL_len] at h3
      simp only [putL, putB, List.getElem_map, List.getElem_range, List.length_map, List.length_range, Nat.div_div_eq_div_mul, ← Nat.pow_add]
      congr 4
      omega
theorem cmpL_mono (a b : Nat) (h : a ≤ b) : (cmpL a).length ≤ (cmpL b).length := by
  rw [cmpL_len, cmpL_len]
  unfold wdN
  by_cases h1 : b < 253
  · simp [h1, show a < 253 by omega]
  by_cases h2 : b ≤ 65535
  · simp [h1, h2]; split <;> (try split) <;> (try split) <;> omega
  by_cases h3 : b ≤ 4294967295
  · simp [h1, h2, h3]; split <;> (try split) <;> (try split) <;> omega
  · simp [h1, h2, h3]; split <;> (try split) <;> (try split) <;> omega
end Go.Proofs.Ytgcopgnkfokphaa
