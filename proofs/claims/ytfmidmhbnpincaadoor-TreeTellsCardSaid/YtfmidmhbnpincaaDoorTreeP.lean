/- Plain: trees of notes, over any function of two keys. -/
import Derived.Test.YtfmidmhbnpincaaDoorGenA
namespace Go.Proofs.YtfmidmhbnpincaaDoor
/-- is the bit i of n set -/
def bitN (n i : Nat) : Bool := decide (n / 2 ^ i % 2 = 1)
theorem mod_bit (n i : Nat) : n % 2 ^ (i + 1) = n % 2 ^ i + (if bitN n i then 2 ^ i else 0) := by
  rw [Nat.mod_pow_succ]
  unfold bitN
  by_cases h : n / 2 ^ i % 2 = 1
  · rw [if_pos (by simpa using h), h]; simp
  · rw [if_neg (by simpa using h), show n / 2 ^ i % 2 = 0 by omega]; simp
theorem bit_lt {n i k : Nat} (h : n < 2 ^ k) (hi : k ≤ i) : bitN n i = false := by
  have h1 : n < 2 ^ i := Nat.lt_of_lt_of_le h (Nat.pow_le_pow_right (by decide) hi)
  unfold bitN
  rw [Nat.div_eq_of_lt h1]
  rfl
section
variable {K : Type} (p : K → K → K) (z : K)
/-- roots of nothing -/
def empR : Nat → K
  | 0 => z
  | i + 1 => p (empR i) (empR i)
/-- the root of notes at a height -/
def atR : Nat → List K → K
  | 0, l => l.headD z
  | h + 1, l => p (atR h (l.take (2 ^ h))) (atR h (l.drop (2 ^ h)))
theorem atR_nil : ∀ h, atR p z h [] = empR p z h
  | 0 => rfl
  | h + 1 => by
    unfold atR empR
    rw [List.take_nil, List.drop_nil, atR_nil h]
theorem atR_app (h : Nat) (a b : List K) (ha : a.length = 2 ^ h) : atR p z (h + 1) (a ++ b) = p (atR p z h a) (atR p z h b) := by
  rw [show atR p z (h + 1) (a ++ b) = p (atR p z h ((a ++ b).take (2 ^ h))) (atR p z h ((a ++ b).drop (2 ^ h))) from rfl]
  rw [List.take_append_of_le_length (by omega), List.take_of_length_le (by omega), List.drop_append, List.drop_of_length_le (by omega), List.nil_append, ha, Nat.sub_self, List.drop_zero]
theorem atR_low (h : Nat) (a : List K) (ha : a.length ≤ 2 ^ h) : atR p z (h + 1) a = p (atR p z h a) (empR p z h) := by
  rw [show atR p z (h + 1) a = p (atR p z h (a.take (2 ^ h))) (atR p z h (a.drop (2 ^ h))) from rfl]
  rw [List.take_of_length_le (by omega), List.drop_of_length_le (by omega), atR_nil]
structure TreeV (K : Type) where
  count : Nat
  parts : List K
/-- the part of notes l for a bit -/
def partOf (l : List K) (i : Nat) : K := if bitN l.length i then atR p z i ((l.drop (l.length - l.length % 2 ^ (i + 1))).take (2 ^ i)) else z
def ofV (l : List K) : TreeV K := ⟨l.length, (List.range 32).map (partOf p z l)⟩
/-- a note carried up from height i on, n heights at most -/
def carryV (c : Nat) : Nat → Nat → List K → K → List K
  | 0, i, P, x => P.set i x
  | n + 1, i, P, x => if bitN c i then carryV c n (i + 1) (P.set i z) (p (P.getD i z) x) else P.set i x
def appV (t : TreeV K) (x : K) : TreeV K × Int :=
  if t.count = 4294967295 then (⟨0, List.replicate 32 z⟩, 2) else (⟨t.count + 1, carryV p z t.count 32 0 t.parts x⟩, 0)
def allV : TreeV K → List K → TreeV K × Int
  | t, [] => (t, 0)
  | t, x :: l => match appV p z t x with
    | (u, e) => if e = 0 then allV u l else (⟨0, List.replicate 32 z⟩, e)
/-- the root below the height n -/
def rootN (t : TreeV K) : Nat → K
  | 0 => z
  | i + 1 => if bitN t.count i then p (t.parts.getD i z) (rootN t i) else p (rootN t i) (empR p z i)
def rootV (t : TreeV K) : K := rootN p z t 32
/-- notes carried up: what stands at height i -/
def upV (P : List K) (x : K) : Nat → K
  | 0 => x
  | i + 1 => p (P.getD i z) (upV P x i)
theorem carryV_at (c : Nat) (P0 : List K) (x : K) : ∀ (n i : Nat) (P : List K), (∀ k, i ≤ k → P.getD k z = P0.getD k z) → P.length = 32 → i ≤ 32 →
    (∀ j, j < i → bitN c j = true) → (∀ k, k < i → k < 32 → P[k]? = some z) → (∃ j, i ≤ j ∧ j < i + n ∧ j < 32 ∧ bitN c j = false) →
    ∃ j, j < 32 ∧ (∀ k, k < j → bitN c k = true) ∧ bitN c j = false ∧ ∀ k, k < 32 → (carryV p z c n i P (upV p z P0 x i))[k]? = some (if k < j then z else if k = j then upV p z P0 x j else P0.getD k z)
  | 0, i, P, _, _, _, _, _, ⟨j, h1, h2, _⟩ => by omega
  | n + 1, i, P, hP, hl, hi, hb, hz, ⟨j, h1, h2, h3, h4⟩ => by
    unfold carryV
    by_cases hc : bitN c i = true
    · rw [if_pos hc]
      have hne : j ≠ i := by intro q; subst q; rw [hc] at h4; cases h4
      have he : p (P.getD i z) (upV p z P0 x i) = upV p z P0 x (i + 1) := by rw [hP i (Nat.le_refl _)]; rfl
      rw [he]
      refine carryV_at c P0 x n (i + 1) (P.set i z) (fun k hk => ?_) (by rw [List.length_set]; exact hl) (by omega) (fun k hk => ?_) (fun k hk hk2 => ?_) ⟨j, by omega, by omega, h3, h4⟩
      · rw [← hP k (by omega)]
        simp only [List.getD_eq_getElem?_getD]
        rw [List.getElem?_set_ne (by omega)]
      · by_cases hki : k = i
        · rw [hki]; exact hc
        · exact hb k (by omega)
      · by_cases hki : k = i
        · rw [hki, List.getElem?_set_self (by omega)]
        · rw [List.getElem?_set_ne (by omega)]
          exact hz k (by omega) hk2
    · rw [if_neg hc]
      have hi32 : i < 32 := by omega
      refine ⟨i, hi32, hb, by simpa using hc, fun k hk => ?_⟩
      by_cases h5 : k < i
      · rw [if_pos h5, List.getElem?_set_ne (by omega)]
        exact hz k h5 hk
      · rw [if_neg h5]
        by_cases h6 : k = i
        · rw [if_pos h6, h6, List.getElem?_set_self (by omega)]
        · rw [if_neg h6, List.getElem?_set_ne (by omega), ← hP k (by omega), List.getD_eq_getElem?_getD, List.getElem?_eq_getElem (by omega)]
          rfl
theorem full_bits {n : Nat} (h : n < 4294967295) : ∃ j, j < 32 ∧ bitN n j = false := by
  apply Classical.byContradiction
  intro hn
  have hall : ∀ j, j < 32 → bitN n j = true := fun j hj => by
    cases hb : bitN n j with
    | true => rfl
    | false => exact absurd ⟨j, hj, hb⟩ hn
  have key : ∀ i, i ≤ 32 → n % 2 ^ i = 2 ^ i - 1 := by
    intro i
    induction i with
    | zero => intro _; simp [Nat.mod_one]
    | succ i ih =>
      intro hi
      have h1 := ih (by omega)
      rw [mod_bit, hall i (by omega), h1, if_pos rfl, Nat.pow_succ]
      have : 0 < 2 ^ i := Nat.two_pow_pos i
      omega
  have := key 32 (Nat.le_refl _)
  rw [Nat.mod_eq_of_lt (by omega)] at this
  omega
/-- where the bits below j are set: the last 2^j notes, x behind -/
theorem ones_mod {n : Nat} : ∀ j, (∀ k, k < j → bitN n k = true) → n % 2 ^ j = 2 ^ j - 1
  | 0, _ => by simp [Nat.mod_one]
  | j + 1, h => by
    have h1 := ones_mod j (fun k hk => h k (by omega))
    rw [mod_bit, h j (by omega), h1, if_pos rfl, Nat.pow_succ]
    have : 0 < 2 ^ j := Nat.two_pow_pos j
    omega
theorem mod_le' (n i : Nat) : n % 2 ^ i ≤ n := Nat.mod_le _ _
theorem ofV_get (l : List K) (i : Nat) (h : i < 32) : (ofV p z l).parts.getD i z = partOf p z l i := by
  unfold ofV
  rw [List.getD_eq_getElem?_getD, List.getElem?_map, List.getElem?_range h]
  rfl
theorem up_of (l : List K) (x : K) : ∀ j, j ≤ 32 → (∀ k, k < j → bitN l.length k = true) → upV p z (ofV p z l).parts x j = atR p z j ((l ++ [x]).drop (l.length + 1 - 2 ^ j))
  | 0, _, _ => by
    unfold upV atR
    rw [show l.length + 1 - 2 ^ 0 = l.length by simp, List.drop_append, List.drop_of_length_le (Nat.le_refl _), Nat.sub_self]
    rfl
  | j + 1, h32, h => by
    have ih := up_of l x j (by omega) (fun k hk => h k (by omega))
    have hm := ones_mod (n := l.length) (j + 1) h
    have hle := mod_le' l.length (j + 1)
    have hp : 0 < 2 ^ j := Nat.two_pow_pos j
    have hpp : 2 ^ (j + 1) = 2 ^ j * 2 := Nat.pow_succ 2 j
    unfold upV
    rw [ih, ofV_get p z l j (by omega)]
    unfold partOf
    rw [if_pos (h j (by omega)), hm, ← atR_app p z j _ _ (by rw [List.length_take, List.length_drop]; omega)]
    congr 1
    have e1 : l.length - (2 ^ (j + 1) - 1) = l.length + 1 - 2 ^ (j + 1) := by omega
    rw [e1, List.drop_append_of_le_length (by omega), List.drop_append_of_le_length (by omega), ← List.append_assoc]
    congr 1
    have e2 : l.length + 1 - 2 ^ j = (l.length + 1 - 2 ^ (j + 1)) + 2 ^ j := by omega
    rw [e2, ← List.drop_drop, List.take_append_drop]
/-- the part of one more note -/
theorem part_app (l : List K) (x : K) (j : Nat) (h1 : ∀ k, k < j → bitN l.length k = true) (h0 : bitN l.length j = false) (k : Nat) :
    partOf p z (l ++ [x]) k = if k < j then z else if k = j then atR p z j ((l ++ [x]).drop (l.length + 1 - 2 ^ j)) else partOf p z l k := by
  have hm := ones_mod (n := l.length) j h1
  have hp : 0 < 2 ^ j := Nat.two_pow_pos j
  have hm1 : l.length % 2 ^ (j + 1) = 2 ^ j - 1 := by rw [mod_bit, h0, hm]; simp
  have hle := mod_le' l.length (j + 1)
  have hsucc : ∀ k, j < k → (l.length + 1) % 2 ^ k = l.length % 2 ^ k + 1 ∧ (l.length + 1) / 2 ^ k = l.length / 2 ^ k := by
    intro k hk
    have hq : l.length % 2 ^ k + 1 < 2 ^ k := by
      obtain ⟨d, rfl⟩ : ∃ d, k = j + 1 + d := ⟨k - (j + 1), by omega⟩
      clear hk
      induction d with
      | zero =>
        rw [Nat.add_zero, hm1, Nat.pow_succ]
        omega
      | succ d ih =>
        rw [show j + 1 + (d + 1) = (j + 1 + d) + 1 from rfl, mod_bit, Nat.pow_succ]
        split <;> omega
    have h5 := Nat.div_add_mod l.length (2 ^ k)
    have hpk : 0 < 2 ^ k := Nat.two_pow_pos k
    refine ⟨?_, ?_⟩
    · rw [← h5, Nat.add_assoc, Nat.mul_add_mod, Nat.mul_add_mod, Nat.mod_eq_of_lt hq, Nat.mod_mod]
    · conv => lhs; rw [← h5]
      rw [Nat.add_assoc, Nat.mul_add_div hpk, Nat.div_eq_of_lt hq, Nat.add_zero]
  have hlen : (l ++ [x]).length = l.length + 1 := by simp
  unfold partOf
  rw [hlen]
  by_cases hkj : k < j
  · rw [if_pos hkj]
    have : bitN (l.length + 1) k = false := by
      have hmk := ones_mod (n := l.length) (k + 1) (fun i hi => h1 i (by omega))
      have hpk : 0 < 2 ^ k := Nat.two_pow_pos k
      have hdvd : (l.length + 1) % 2 ^ (k + 1) = 0 := by
        rw [Nat.add_mod, hmk]
        have : 2 ^ (k + 1) = 2 ^ k * 2 := Nat.pow_succ 2 k
        rw [Nat.mod_eq_of_lt (show 1 < 2 ^ (k + 1) by omega), Nat.sub_add_cancel (by omega), Nat.mod_self]
      have h7 := mod_bit (l.length + 1) k
      rw [hdvd] at h7
      cases hb : bitN (l.length + 1) k with
      | false => rfl
      | true => rw [hb, if_pos rfl] at h7; omega
    rw [if_neg (by rw [this]; decide)]
  · rw [if_neg hkj]
    by_cases hk : k = j
    · subst hk
      rw [if_pos rfl]
      have hs := hsucc (k + 1) (by omega)
      have hbit : bitN (l.length + 1) k = true := by
        have h7 := mod_bit (l.length + 1) k
        rw [hs.1, hm1] at h7
        cases hb : bitN (l.length + 1) k with
        | true => rfl
        | false =>
          rw [hb] at h7
          have := Nat.mod_lt (l.length + 1) hp
          simp at h7
          omega
      rw [if_pos hbit, hs.1, hm1]
      have e1 : l.length + 1 - (2 ^ k - 1 + 1) = l.length + 1 - 2 ^ k := by omega
      rw [e1, List.take_of_length_le (by rw [List.length_drop, hlen]; omega)]
    · rw [if_neg hk]
      have hs := hsucc k (by omega)
      have hs1 := hsucc (k + 1) (by omega)
      have hbit : bitN (l.length + 1) k = bitN l.length k := by unfold bitN; rw [hs.2]
      rw [hbit]
      by_cases hb : bitN l.length k = true
      · rw [if_pos hb, if_pos hb, hs1.1]
        have h8 := mod_bit l.length k
        rw [hb, if_pos rfl] at h8
        have h9 := mod_le' l.length (k + 1)
        rw [show l.length + 1 - (l.length % 2 ^ (k + 1) + 1) = l.length - l.length % 2 ^ (k + 1) by omega, List.drop_append_of_le_length (by omega), List.take_append_of_le_length (by rw [List.length_drop]; omega)]
      · rw [if_neg hb, if_neg hb]
theorem carryV_len (c : Nat) : ∀ (n i : Nat) (P : List K) (x : K), (carryV p z c n i P x).length = P.length
  | 0, i, P, x => by unfold carryV; rw [List.length_set]
  | n + 1, i, P, x => by
    unfold carryV
    split
    · rw [carryV_len c n, List.length_set]
    · rw [List.length_set]
theorem appV_of (l : List K) (x : K) (h : l.length < 4294967295) : appV p z (ofV p z l) x = (ofV p z (l ++ [x]), 0) := by
  unfold appV
  rw [show (ofV p z l).count = l.length from rfl, if_neg (by omega)]
  obtain ⟨j0, hj0, hb0⟩ := full_bits h
  obtain ⟨j, hj, h1, h0, hc⟩ := carryV_at p z l.length (ofV p z l).parts x 32 0 (ofV p z l).parts (fun _ _ => rfl) (by simp [ofV]) (by omega) (fun k hk => by omega) (fun k hk => by omega) ⟨j0, by omega, by omega, hj0, hb0⟩
  have hu := up_of p z l x j (by omega) h1
  congr 1
  unfold ofV
  rw [show (l ++ [x]).length = l.length + 1 by simp]
  congr 1
  apply List.ext_getElem?
  intro k
  by_cases hk : k < 32
  · have h2 := hc k hk
    rw [show upV p z (ofV p z l).parts x 0 = x from rfl] at h2
    rw [show (ofV p z l).parts = (List.range 32).map (partOf p z l) from rfl] at h2
    rw [h2, List.getElem?_map, List.getElem?_range hk, Option.map_some, part_app p z l x j h1 h0 k]
    congr 1
    split
    · rfl
    · split
      · exact hu
      · exact ofV_get p z l k hk
  · rw [List.getElem?_eq_none (by rw [carryV_len]; simp; omega), List.getElem?_eq_none (by simp; omega)]
theorem allV_of : ∀ (m l : List K), l.length + m.length ≤ 4294967295 → allV p z (ofV p z l) m = (ofV p z (l ++ m), 0)
  | [], l, _ => by unfold allV; rw [List.append_nil]
  | x :: m, l, h => by
    unfold allV
    rw [appV_of p z l x (by simp at h; omega)]
    show (if (0 : Int) = 0 then _ else _) = _
    rw [if_pos rfl, allV_of m (l ++ [x]) (by simp at h ⊢; omega), List.append_assoc]
    rfl
theorem rootN_of (l : List K) : ∀ i, i ≤ 32 → rootN p z (ofV p z l) i = atR p z i (l.drop (l.length - l.length % 2 ^ i))
  | 0, _ => by
    unfold rootN
    rw [show l.length - l.length % 2 ^ 0 = l.length by simp [Nat.mod_one], List.drop_of_length_le (Nat.le_refl _)]
    rfl
  | i + 1, h32 => by
    have ih := rootN_of l i (by omega)
    unfold rootN
    rw [ih, show (ofV p z l).count = l.length from rfl, ofV_get p z l i (by omega)]
    have hm := mod_bit l.length i
    have hle := mod_le' l.length (i + 1)
    have hlt := Nat.mod_lt l.length (Nat.two_pow_pos i)
    unfold partOf
    by_cases hb : bitN l.length i = true
    · rw [if_pos hb, if_pos hb]
      rw [hb, if_pos rfl] at hm
      rw [← atR_app p z i _ _ (by rw [List.length_take, List.length_drop]; omega)]
      congr 1
      rw [show l.length - l.length % 2 ^ i = (l.length - l.length % 2 ^ (i + 1)) + 2 ^ i by omega, ← List.drop_drop, List.take_append_drop]
    · rw [if_neg hb]
      rw [if_neg hb] at hm
      rw [show l.length % 2 ^ (i + 1) = l.length % 2 ^ i by omega]
      exact (atR_low p z i _ (by rw [List.length_drop]; omega)).symm
theorem rootV_of (l : List K) (h : l.length < 4294967296) : rootV p z (ofV p z l) = atR p z 32 l := by
  unfold rootV
  rw [rootN_of p z l 32 (Nat.le_refl _), Nat.mod_eq_of_lt (by omega), Nat.sub_self, List.drop_zero]
theorem bit_pow (k : Nat) : bitN (2 ^ k) k = true := by
  unfold bitN
  rw [Nat.div_self (Nat.two_pow_pos k)]
  rfl
theorem bit_pow_low (k : Nat) : bitN (2 ^ (k + 1)) k = false := by
  unfold bitN
  rw [Nat.pow_succ, Nat.mul_comm, Nat.mul_div_cancel _ (Nat.two_pow_pos k)]
  rfl
theorem part_pow (l : List K) (k : Nat) (h : l.length = 2 ^ k) : partOf p z l k = atR p z k l := by
  unfold partOf
  have hp : 0 < 2 ^ k := Nat.two_pow_pos k
  rw [h, if_pos (bit_pow k), Nat.mod_eq_of_lt (show 2 ^ k < 2 ^ (k + 1) by rw [Nat.pow_succ]; omega), Nat.sub_self, List.drop_zero, List.take_of_length_le (by omega)]
theorem part_low (l : List K) (k : Nat) (h : l.length = 2 ^ (k + 1)) : partOf p z l k = z := by
  unfold partOf
  rw [h, if_neg (by rw [bit_pow_low]; decide)]
theorem part_half (l : List K) (k : Nat) (h : l.length = 2 ^ (k + 1)) : partOf p z l (k + 1) = p (partOf p z (l.take (2 ^ k)) k) (partOf p z (l.drop (2 ^ k)) k) := by
  have hp : 2 ^ (k + 1) = 2 ^ k * 2 := Nat.pow_succ 2 k
  rw [part_pow p z l (k + 1) h, part_pow p z _ k (by rw [List.length_take]; omega), part_pow p z _ k (by rw [List.length_drop]; omega)]
  rfl
theorem part_none (l : List K) (i : Nat) (h : bitN l.length i = false) : partOf p z l i = z := by
  unfold partOf
  rw [if_neg (by rw [h]; decide)]
end
end Go.Proofs.YtfmidmhbnpincaaDoor
