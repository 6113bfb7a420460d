/- Plain: what is written is read, and nothing else; a transaction's bytes. -/
import Derived.Test.YthpnmmilioonhaaGenA
import Derived.Test.YthpnmmilioonhaaCodAll
namespace Go.Proofs.Ythpnmmilioonhaa
abbrev Rd (α : Type) := List UInt8 → Except Int (α × List UInt8)
/-- R reads what W writes of what is V, and nothing else; a beginning of it is too short -/
structure Good {α : Type} (W : α → List UInt8) (R : Rd α) (V : α → Prop) : Prop where
  fwd : ∀ a rest, V a → R (W a ++ rest) = .ok (a, rest)
  bwd : ∀ s a r, R s = .ok (a, r) → V a ∧ s = W a ++ r
  cut : ∀ a i, V a → i < (W a).length → R ((W a).take i) = .error 30
def thenR {α β : Type} (R1 : Rd α) (R2 : α → Rd β) : Rd (α × β) := fun s =>
  match R1 s with
  | .error e => .error e
  | .ok (a, r) => match R2 a r with
    | .error e => .error e
    | .ok (b, r') => .ok ((a, b), r')
theorem Good.then_ {α β : Type} {W1 : α → List UInt8} {R1 : Rd α} {V1 : α → Prop} {W2 : α → β → List UInt8} {R2 : α → Rd β} {V2 : α → β → Prop} (h1 : Good W1 R1 V1) (h2 : ∀ a, V1 a → Good (W2 a) (R2 a) (V2 a)) :
    Good (fun p : α × β => W1 p.1 ++ W2 p.1 p.2) (thenR R1 R2) (fun p => V1 p.1 ∧ V2 p.1 p.2) where
  fwd := by
    rintro ⟨a, b⟩ rest ⟨v1, v2⟩
    simp only [thenR, List.append_assoc, h1.fwd a _ v1, (h2 a v1).fwd b _ v2]
  bwd := by
    rintro s ⟨a, b⟩ r h
    unfold thenR at h
    split at h
    · cases h
    · rename_i a' r1 e1
      split at h
      · cases h
      · rename_i b' r2 e2
        injection h with h
        injection h with h3 h4
        injection h3 with h5 h6
        subst h5 h6 h4
        obtain ⟨v1, rfl⟩ := h1.bwd _ _ _ e1
        obtain ⟨v2, rfl⟩ := (h2 _ v1).bwd _ _ _ e2
        exact ⟨⟨v1, v2⟩, by rw [List.append_assoc]⟩
  cut := by
    rintro ⟨a, b⟩ i ⟨v1, v2⟩ hi
    simp only [List.length_append] at hi
    simp only [thenR]
    by_cases hl : i < (W1 a).length
    · rw [List.take_append_of_le_length (Nat.le_of_lt hl), h1.cut a i v1 hl]
    · rw [List.take_append, List.take_of_length_le (by omega), h1.fwd a _ v1]
      simp only
      rw [(h2 a v1).cut b (i - (W1 a).length) v2 (by omega)]
def mapR {α β : Type} (f : α → β) (R : Rd α) : Rd β := fun s =>
  match R s with
  | .error e => .error e
  | .ok (a, r) => .ok (f a, r)
theorem Good.map {α β : Type} {W : α → List UInt8} {R : Rd α} {V : α → Prop} (h : Good W R V) (f : α → β) (g : β → α) {V' : β → Prop} (hfg : ∀ b, V' b → f (g b) = b) (hgf : ∀ a, V a → g (f a) = a) (hv : ∀ b, V' b → V (g b)) (hv' : ∀ a, V a → V' (f a)) :
    Good (fun b => W (g b)) (mapR f R) V' where
  fwd := fun b rest v => by simp only [mapR, h.fwd (g b) rest (hv b v), hfg b v]
  bwd := by
    intro s b r e
    unfold mapR at e
    split at e
    · cases e
    · rename_i a r1 e1
      injection e with e
      injection e with e2 e3
      subst e2 e3
      obtain ⟨v, rfl⟩ := h.bwd _ _ _ e1
      exact ⟨hv' a v, by rw [hgf a v]⟩
  cut := fun b i v hi => by simp only [mapR, h.cut (g b) i (hv b v) hi]
def listR {α : Type} (R : Rd α) : Nat → Rd (List α)
  | 0 => fun s => .ok ([], s)
  | n + 1 => mapR (fun p : α × List α => p.1 :: p.2) (thenR R (fun _ => listR R n))
theorem Good.list {α : Type} {W : α → List UInt8} {R : Rd α} {V : α → Prop} (h : Good W R V) : ∀ n, Good (fun l : List α => l.flatMap W) (listR R n) (fun l => l.length = n ∧ ∀ x ∈ l, V x)
  | 0 => {
      fwd := fun a rest v => by
        obtain rfl : a = [] := List.length_eq_zero_iff.1 v.1
        rfl
      bwd := fun s a r e => by
        simp only [listR, Except.ok.injEq, Prod.mk.injEq] at e
        obtain ⟨rfl, rfl⟩ := e
        exact ⟨⟨rfl, by simp⟩, rfl⟩
      cut := fun a i v hi => by
        obtain rfl : a = [] := List.length_eq_zero_iff.1 v.1
        simp at hi }
  | n + 1 => {
      fwd := fun a rest v => by
        match a, v with
        | x :: l, v =>
          have v2 : l.length = n ∧ ∀ y ∈ l, V y := ⟨by simpa using v.1, fun y hy => v.2 y (List.mem_cons_of_mem _ hy)⟩
          have h1 := (Good.then_ h (fun _ _ => Good.list h n)).fwd (x, l) rest ⟨v.2 x (by simp), v2⟩
          simp only [listR, mapR, List.flatMap_cons, h1]
      bwd := fun s a r e => by
        simp only [listR] at e
        unfold mapR at e
        split at e
        · cases e
        · rename_i p r1 e1
          injection e with e
          injection e with e2 e3
          subst e2 e3
          obtain ⟨⟨v1, v2⟩, rfl⟩ := (Good.then_ h (fun _ _ => Good.list h n)).bwd _ _ _ e1
          exact ⟨⟨by simp [v2.1], fun y hy => (List.mem_cons.1 hy).elim (fun q => q ▸ v1) (v2.2 y)⟩, by rw [List.flatMap_cons]⟩
      cut := fun a i v hi => by
        match a, v with
        | x :: l, v =>
          have v2 : l.length = n ∧ ∀ y ∈ l, V y := ⟨by simpa using v.1, fun y hy => v.2 y (List.mem_cons_of_mem _ hy)⟩
          have h1 := (Good.then_ h (fun _ _ => Good.list h n)).cut (x, l) i ⟨v.2 x (by simp), v2⟩ (by simpa using hi)
          simp only [listR, mapR, List.flatMap_cons, h1] }
/-- wd bytes, a number -/
def getR (wd : Nat) : Rd Nat := fun s => if s.length < wd then .error 30 else .ok (getN (s.take wd), s.drop wd)
theorem good_get (wd : Nat) : Good (fun n => putL n wd) (getR wd) (fun n => n < 2 ^ (8 * wd)) where
  fwd := fun n rest v => by
    have hl := putL_len n wd
    unfold getR
    rw [if_neg (by rw [List.length_append]; omega), List.take_append_of_le_length (by omega), List.take_of_length_le (by omega), List.drop_append_of_le_length (by omega), List.drop_of_length_le (by omega), getN_putL, Nat.mod_eq_of_lt v]
    rfl
  bwd := fun s a r e => by
    unfold getR at e
    split at e
    · cases e
    · rename_i hl
      injection e with e
      injection e with e2 e3
      subst e2 e3
      have ht : (s.take wd).length = wd := by rw [List.length_take]; omega
      refine ⟨?_, ?_⟩
      · have := getN_lt (s.take wd)
        rwa [ht] at this
      · have := putL_getN (s.take wd)
        rw [ht] at this
        rw [this, List.take_append_drop]
  cut := fun n i _ hi => by
    rw [putL_len] at hi
    unfold getR
    rw [if_pos (by rw [List.length_take, putL_len]; omega)]
/-- a key -/
def keyR : Rd K32 := fun s => if h : s.length < 32 then .error 30 else .ok (⟨s.take 32, by rw [List.length_take]; omega⟩, s.drop 32)
theorem good_key : Good (fun k : K32 => k.1) keyR (fun _ => True) where
  fwd := fun k rest _ => by
    have hl := k.2
    unfold keyR
    rw [dif_neg (by rw [List.length_append]; omega)]
    congr 2
    · apply Subtype.ext
      show (k.1 ++ rest).take 32 = k.1
      rw [List.take_append_of_le_length (by omega), List.take_of_length_le (by omega)]
    · rw [List.drop_append_of_le_length (by omega), List.drop_of_length_le (by omega)]; rfl
  bwd := fun s a r e => by
    unfold keyR at e
    split at e
    · cases e
    · injection e with e
      injection e with e2 e3
      subst e2 e3
      exact ⟨trivial, by simp⟩
  cut := fun k i _ hi => by
    rw [k.2] at hi
    unfold keyR
    rw [dif_pos (by rw [List.length_take, k.2]; omega)]
/-- a number of things, at most 40 -/
def numR : Rd Nat := fun s => match readF s with
  | (n, r, e) => if e = 0 then (if 40 < n then .error 51 else .ok (n, r)) else .error e
theorem good_num : Good cmpL numR (fun n => n ≤ 40) where
  fwd := fun n rest v => by
    unfold numR
    rw [readF_cmp n rest (by omega)]
    simp only [if_true]
    rw [if_neg (by omega)]
  bwd := fun s a r e => by
    unfold numR at e
    rcases readF_cases s with ⟨n, r', h1, h2, _⟩ | h1 | h1
    · rw [h1] at e
      simp only [if_true] at e
      split at e
      · cases e
      · rename_i hn
        injection e with e
        injection e with e2 e3
        subst e2 e3
        exact ⟨by omega, h2.symm⟩
    · rw [h1] at e
      simp at e
    · rw [h1] at e
      simp at e
  cut := fun n i _ hi => by
    unfold numR
    rw [readF_cut n i hi]
    rfl
end Go.Proofs.Ythpnmmilioonhaa
