/- Plain: keys, their order, lists that rise, sets. No program is named here. -/
import Derived.Test.YtgcopgnkfokphaaBytes
import Derived.Lib.Bytealg
import Derived.Shelf.SlSortCmp.Insertion
import Derived.Sort.LotA
namespace Go.Proofs.Ytgcopgnkfokphaa
open Go.RowKit
/-- a key: 32 bytes -/
abbrev K32 := {l : List UInt8 // l.length = 32}
instance : Inhabited K32 := ⟨⟨List.replicate 32 0, by simp⟩⟩
def encK (x : K32) : List Value := (bytesA x.1).toList
theorem encK_len (x : K32) : (encK x).length = 32 := by
  show (bytesA x.1).toList.length = 32
  rw [Array.length_toList, bytesA_size]; exact x.2
theorem encK_arr (x : K32) : (encK x).toArray = bytesA x.1 := by simp [encK]
theorem encK_one (x : K32) : ∀ v ∈ encK x, v.oneCell' = true := by
  intro v hv
  simp only [encK, bytesA, List.mem_map] at hv
  obtain ⟨_, _, rfl⟩ := hv
  rfl
theorem encK_inj {x y : K32} (h : encK x = encK y) : x = y := by
  apply Subtype.ext
  apply bytesA_inj
  rw [← encK_arr, ← encK_arr, h]
/-- a is below b -/
def cmpK (a b : K32) : Int := Lib.compareBytes a.1 b.1
def ltK (a b : K32) : Bool := decide (cmpK a b < 0)
theorem cb_self : ∀ l : List UInt8, Lib.compareBytes l l = 0
  | [] => rfl
  | a :: l => by unfold Lib.compareBytes; rw [if_neg (UInt8.lt_irrefl a), if_neg (UInt8.lt_irrefl a)]; exact cb_self l
theorem cb_anti : ∀ l m : List UInt8, Lib.compareBytes m l = - Lib.compareBytes l m
  | [], [] => rfl
  | [], _ :: _ => rfl
  | _ :: _, [] => rfl
  | a :: l, b :: m => by
    unfold Lib.compareBytes
    by_cases h1 : a < b
    · have h2 : ¬ b < a := UInt8.not_lt.2 (UInt8.le_of_lt h1)
      simp [h1, h2]
    · by_cases h2 : b < a
      · simp [h1, h2]
      · simp only [h1, h2, if_false]; exact cb_anti l m
theorem cb_eq : ∀ l m : List UInt8, Lib.compareBytes l m = 0 → l = m
  | [], [], _ => rfl
  | [], _ :: _, h => by simp [Lib.compareBytes] at h
  | _ :: _, [], h => by simp [Lib.compareBytes] at h
  | a :: l, b :: m, h => by
    unfold Lib.compareBytes at h
    by_cases h1 : a < b
    · simp [h1] at h
    · by_cases h2 : b < a
      · simp [h1, h2] at h
      · simp only [h1, h2, if_false] at h
        have e : a = b := UInt8.le_antisymm (UInt8.not_lt.1 h2) (UInt8.not_lt.1 h1)
        rw [e, cb_eq l m h]
theorem cb_trans : ∀ l m n : List UInt8, Lib.compareBytes l m < 0 → Lib.compareBytes m n < 0 → Lib.compareBytes l n < 0
  | [], [], _, h, _ => by simp [Lib.compareBytes] at h
  | [], _ :: _, [], _, h => by simp [Lib.compareBytes] at h
  | [], _ :: _, _ :: _, _, _ => by simp [Lib.compareBytes]
  | _ :: _, [], _, h, _ => by simp [Lib.compareBytes] at h
  | _ :: _, _ :: _, [], _, h => by simp [Lib.compareBytes] at h
  | a :: l, b :: m, c :: n, h1, h2 => by
    unfold Lib.compareBytes at h1 h2 ⊢
    by_cases a1 : a < b
    · by_cases b1 : b < c
      · simp [UInt8.lt_trans a1 b1]
      · by_cases b2 : c < b
        · simp [b1, b2] at h2
        · have e : b = c := UInt8.le_antisymm (UInt8.not_lt.1 b2) (UInt8.not_lt.1 b1)
          subst e; simp [a1]
    · by_cases a2 : b < a
      · simp [a1, a2] at h1
      · have e : a = b := UInt8.le_antisymm (UInt8.not_lt.1 a2) (UInt8.not_lt.1 a1)
        subst e
        simp only [a1, if_false] at h1
        by_cases b1 : a < c
        · simp [b1]
        · by_cases b2 : c < a
          · simp [b1, b2] at h2
          · simp only [b1, b2, if_false] at h2 ⊢
            exact cb_trans l m n h1 h2
theorem cb_at : ∀ (k : Nat) (l m : List UInt8) (hk : k < l.length) (hm : k < m.length), l.take k = m.take k → l[k] ≠ m[k] → (Lib.compareBytes l m < 0 ↔ l[k] < m[k])
  | 0, a :: l, b :: m, _, _, _, hne => by
    simp only [List.getElem_cons_zero] at hne ⊢
    unfold Lib.compareBytes
    by_cases h1 : a < b
    · simp [h1]
    · have h2 : b < a := UInt8.lt_of_le_of_ne (UInt8.not_lt.1 h1) (Ne.symm hne)
      simp [h1, h2]
  | k + 1, a :: l, b :: m, hk, hm, ht, hne => by
    simp only [List.getElem_cons_succ] at hne ⊢
    simp only [List.take_succ_cons, List.cons.injEq] at ht
    obtain ⟨rfl, ht⟩ := ht
    unfold Lib.compareBytes
    rw [if_neg (UInt8.lt_irrefl a), if_neg (UInt8.lt_irrefl a)]
    exact cb_at k l m (by simpa using hk) (by simpa using hm) ht hne
theorem ltK_at (a b : K32) (k : Nat) (hk : k < 32) (ht : a.1.take k = b.1.take k) (hne : a.1[k]'(by rw [a.2]; exact hk) ≠ b.1[k]'(by rw [b.2]; exact hk)) :
    ltK a b = decide (((a.1[k]'(by rw [a.2]; exact hk)).toNat : Int) < ((b.1[k]'(by rw [b.2]; exact hk)).toNat : Int)) := by
  unfold ltK cmpK
  have h := cb_at k a.1 b.1 (by rw [a.2]; exact hk) (by rw [b.2]; exact hk) ht hne
  rw [decide_eq_decide, h, UInt8.lt_iff_toNat_lt]
  omega
theorem ltK_same (a b : K32) (h : a.1.take 32 = b.1.take 32) : ltK a b = false := by
  rw [List.take_of_length_le (by rw [a.2]; exact Nat.le_refl _), List.take_of_length_le (by rw [b.2]; exact Nat.le_refl _)] at h
  unfold ltK cmpK; rw [h, cb_self]; rfl
theorem ltK_irrefl (a : K32) : ltK a a = false := by simp [ltK, cmpK, cb_self]
theorem ltK_trans {a b c : K32} (h1 : ltK a b = true) (h2 : ltK b c = true) : ltK a c = true := by
  simp only [ltK, decide_eq_true_eq] at *
  exact cb_trans _ _ _ h1 h2
theorem ltK_tri {a b : K32} (h1 : ltK a b = false) (h2 : ltK b a = false) : a = b := by
  have g1 : ¬ Lib.compareBytes a.1 b.1 < 0 := of_decide_eq_false h1
  have g2 : ¬ Lib.compareBytes b.1 a.1 < 0 := of_decide_eq_false h2
  have h3 := cb_anti a.1 b.1
  exact Subtype.ext (cb_eq _ _ (by omega))
theorem ltK_asym {a b : K32} (h : ltK a b = true) : ltK b a = false := by
  cases h2 : ltK b a with
  | false => rfl
  | true => have := ltK_trans h h2; rw [ltK_irrefl] at this; cases this
theorem ltK_ntrans {a b c : K32} (h1 : ltK a b = false) (h2 : ltK b c = false) : ltK a c = false := by
  cases h : ltK a c with
  | false => rfl
  | true =>
    cases h3 : ltK b a with
    | true => rw [ltK_trans h3 h] at h2; cases h2
    | false => rw [ltK_tri h1 h3] at h; rw [h] at h2; cases h2
theorem ltOf_cmpK : Go.Proofs.ltOf cmpK = ltK := rfl
theorem swoK : Go.Sort.SWO (Go.Proofs.ltOf cmpK) := ⟨ltK_irrefl, fun _ _ _ => ltK_trans, fun _ _ _ => ltK_ntrans⟩
/-- it rises: none is below the one ahead of it -/
abbrev Rises (l : List K32) : Prop := l.Pairwise fun a b => ltK b a = false
/-- a set: each is below the next -/
abbrev IsSet (l : List K32) : Prop := l.Pairwise fun a b => ltK a b = true
theorem IsSet.rises {l : List K32} (h : IsSet l) : Rises l := h.imp ltK_asym
theorem rises_unique {l m : List K32} (hp : l.Perm m) (h1 : Rises l) (h2 : Rises m) : l = m :=
  hp.eq_of_pairwise (fun _ _ _ _ h3 h4 => ltK_tri h4 h3) h1 h2
/-- k ahead of the first one that it is below, or behind all -/
def putK (k : K32) : List K32 → List K32
  | [] => [k]
  | a :: l => if ltK k a then k :: a :: l else a :: putK k l
def sortK (l : List K32) : List K32 := l.foldl (fun s k => putK k s) []
theorem putK_perm (k : K32) : ∀ l, (putK k l).Perm (k :: l)
  | [] => .refl _
  | a :: l => by
    unfold putK
    split
    · exact .refl _
    · exact ((putK_perm k l).cons a).trans (.swap _ _ _)
theorem putK_mem {k x : K32} {l : List K32} : x ∈ putK k l ↔ x = k ∨ x ∈ l := by rw [(putK_perm k l).mem_iff]; simp
theorem putK_rises (k : K32) : ∀ l, Rises l → Rises (putK k l)
  | [], _ => by simp [putK]
  | a :: l, h => by
    have h' := List.pairwise_cons.1 h
    unfold putK
    split
    · rename_i hk
      refine List.pairwise_cons.2 ⟨fun x hx => ?_, h⟩
      rcases List.mem_cons.1 hx with rfl | hx
      · exact ltK_asym hk
      · exact ltK_ntrans (h'.1 x hx) (ltK_asym hk)
    · rename_i hk
      refine List.pairwise_cons.2 ⟨fun x hx => ?_, putK_rises k l h'.2⟩
      rcases putK_mem.1 hx with rfl | hx
      · simpa using hk
      · exact h'.1 x hx
theorem sortK_perm (l : List K32) : (sortK l).Perm l := by
  have h : ∀ (l s : List K32), (l.foldl (fun s k => putK k s) s).Perm (l ++ s) := by
    intro l
    induction l with
    | nil => intro s; exact .refl _
    | cons a l ih => intro s; exact (ih _).trans (((putK_perm a s).append_left l).trans List.perm_middle)
  have := h l []
  rwa [List.append_nil] at this
theorem sortK_rises (l : List K32) : Rises (sortK l) := by
  have h : ∀ (l s : List K32), Rises s → Rises (l.foldl (fun s k => putK k s) s) := by
    intro l
    induction l with
    | nil => intro s hs; exact hs
    | cons a l ih => intro s hs; exact ih _ (putK_rises a s hs)
  exact h l [] (by simp)
theorem sortK_of {l m : List K32} (hp : l.Perm m) (h : Rises l) : l = sortK m := rises_unique (hp.trans (sortK_perm m).symm) h (sortK_rises m)
theorem sortK_len (l : List K32) : (sortK l).length = l.length := (sortK_perm l).length_eq
theorem sortK_mem {l : List K32} {x : K32} : x ∈ sortK l ↔ x ∈ l := (sortK_perm l).mem_iff
theorem sortK_congr {l m : List K32} (h : l.Perm m) : sortK l = sortK m := sortK_of ((sortK_perm l).trans h) (sortK_rises l)
theorem sortK_self {l : List K32} (h : Rises l) : sortK l = l := (sortK_of (.refl l) h).symm
end Go.Proofs.Ytgcopgnkfokphaa
