/- Plain: coins that stand at points, put and taken; what was applied is undone. Over any coins, and any order of points. -/
import Derived.Test.YtkjgmhamglhggaaGenA
namespace Go.Proofs.Ytkjgmhamglhggaa
section
variable {C P : Type} (at_ : C → P) (lt : P → P → Bool)
/-- a coin ahead of the first one that its point is less than -/
def putC (c : C) : List C → List C
  | [] => [c]
  | x :: s => if lt (at_ c) (at_ x) then c :: x :: s else x :: putC c s
variable {at_ lt}
theorem putC_mem {c x : C} : ∀ {s : List C}, x ∈ putC at_ lt c s ↔ x = c ∨ x ∈ s
  | [] => by simp [putC]
  | y :: s => by
    unfold putC
    split
    · simp
    · rw [List.mem_cons, putC_mem, List.mem_cons]
      constructor
      · rintro (h | h | h)
        · exact .inr (.inl h)
        · exact .inl h
        · exact .inr (.inr h)
      · rintro (h | h | h)
        · exact .inr (.inl h)
        · exact .inl h
        · exact .inr (.inr h)
theorem putC_len (c : C) : ∀ s : List C, (putC at_ lt c s).length = s.length + 1
  | [] => rfl
  | y :: s => by
    unfold putC
    split
    · rfl
    · rw [List.length_cons, putC_len c s, List.length_cons]
end
section
variable {C P : Type} [DecidableEq P] (at_ : C → P) (lt : P → P → Bool)
/-- the first coin at a point -/
def findC (s : List C) (p : P) : Option C := s.find? fun c => decide (at_ c = p)
/-- without the first coin at a point -/
def delC (s : List C) (p : P) : List C := s.eraseP fun c => decide (at_ c = p)
def RisesC (s : List C) : Prop := s.Pairwise fun a b => lt (at_ a) (at_ b) = true
/-- coins that are spent, in order -/
def takeC (ripe : C → Bool) : List C → List P → Option (List C × List C)
  | s, [] => some (s, [])
  | s, p :: ps => match findC at_ s p with
    | none => none
    | some c => if ripe c then (takeC ripe (delC at_ s p) ps).map fun x => (x.1, c :: x.2) else none
/-- coins that are made, in order -/
def addC : List C → List C → Option (List C)
  | s, [] => some s
  | s, c :: cs => if (findC at_ s (at_ c)).isSome then none else addC (putC at_ lt c s) cs
/-- coins that are taken off again, in the order of the list -/
def remC : List C → List P → Option (List C)
  | s, [] => some s
  | s, p :: ps => if (findC at_ s p).isSome then remC (delC at_ s p) ps else none
variable {at_ lt}
theorem findC_at {s : List C} {p : P} {c : C} (h : findC at_ s p = some c) : at_ c = p := by
  have := List.find?_some h
  exact of_decide_eq_true this
theorem findC_mem {s : List C} {p : P} {c : C} (h : findC at_ s p = some c) : c ∈ s := List.mem_of_find?_eq_some h
theorem findC_none {s : List C} {p : P} : findC at_ s p = none ↔ ∀ c ∈ s, at_ c ≠ p := by
  unfold findC
  rw [List.find?_eq_none]
  simp
theorem find_put {c : C} {p : P} (h : at_ c ≠ p) : ∀ s : List C, findC at_ (putC at_ lt c s) p = findC at_ s p
  | [] => by simp [findC, putC, h]
  | y :: s => by
    have ih := find_put h s
    unfold findC at ih ⊢
    unfold putC
    split
    · rw [List.find?_cons_of_neg (by simpa using h)]
    · by_cases hy : at_ y = p
      · rw [List.find?_cons_of_pos (by simpa using hy), List.find?_cons_of_pos (by simpa using hy)]
      · rw [List.find?_cons_of_neg (by simpa using hy), List.find?_cons_of_neg (by simpa using hy), ih]
theorem find_put_self {c : C} : ∀ s : List C, findC at_ s (at_ c) = none → findC at_ (putC at_ lt c s) (at_ c) = some c
  | [], _ => by simp [findC, putC]
  | y :: s, h => by
    have hn := findC_none.1 h
    have hy : at_ y ≠ at_ c := hn y (by simp)
    have ih := find_put_self s (findC_none.2 fun x hx => hn x (by simp [hx]))
    unfold findC at ih ⊢
    unfold putC
    split
    · rw [List.find?_cons_of_pos (by simp)]
    · rw [List.find?_cons_of_neg (by simpa using hy), ih]
theorem find_del {p q : P} (h : p ≠ q) : ∀ s : List C, findC at_ (delC at_ s q) p = findC at_ s p
  | [] => rfl
  | y :: s => by
    have ih := find_del h s
    unfold findC delC at ih ⊢
    by_cases hy : at_ y = q
    · rw [List.eraseP_cons_of_pos (by simpa using hy), List.find?_cons_of_neg (by rw [hy]; simpa using fun e => h e.symm)]
    · rw [List.eraseP_cons_of_neg (by simpa using hy)]
      by_cases hp : at_ y = p
      · rw [List.find?_cons_of_pos (by simpa using hp), List.find?_cons_of_pos (by simpa using hp)]
      · rw [List.find?_cons_of_neg (by simpa using hp), List.find?_cons_of_neg (by simpa using hp), ih]
theorem del_put {c : C} : ∀ s : List C, findC at_ s (at_ c) = none → delC at_ (putC at_ lt c s) (at_ c) = s
  | [], _ => by simp [delC, putC]
  | y :: s, h => by
    have hn := findC_none.1 h
    have hy : at_ y ≠ at_ c := hn y (by simp)
    have ih := del_put s (findC_none.2 fun x hx => hn x (by simp [hx]))
    unfold delC at ih ⊢
    unfold putC
    split
    · rw [List.eraseP_cons_of_pos (by simp)]
    · rw [List.eraseP_cons_of_neg (by simpa using hy), ih]
theorem del_len {p : P} {c : C} : ∀ s : List C, findC at_ s p = some c → (delC at_ s p).length + 1 = s.length := by
  intro s h
  have hm := findC_mem h
  unfold delC
  have := List.length_eraseP_of_mem (p := fun c => decide (at_ c = p)) hm (by simpa using findC_at h)
  have hl : 0 < s.length := List.length_pos_of_mem hm
  omega
end
/-- an order of points -/
structure OrdC {P : Type} (lt : P → P → Bool) : Prop where
  irrefl : ∀ a, lt a a = false
  trans : ∀ {a b c}, lt a b = true → lt b c = true → lt a c = true
  tri : ∀ {a b}, lt a b = false → lt b a = false → a = b
theorem OrdC.asym {P : Type} {lt : P → P → Bool} (O : OrdC lt) {a b : P} (h : lt a b = true) : lt b a = false := by
  cases hb : lt b a with
  | false => rfl
  | true => have := O.trans h hb; rw [O.irrefl] at this; cases this
section
variable {C P : Type} [DecidableEq P] {at_ : C → P} {lt : P → P → Bool}
theorem rises_del {p : P} {s : List C} (h : RisesC at_ lt s) : RisesC at_ lt (delC at_ s p) := List.Pairwise.sublist List.eraseP_sublist h
theorem find_del_self (O : OrdC lt) {p : P} : ∀ s : List C, RisesC at_ lt s → findC at_ (delC at_ s p) p = none
  | [], _ => rfl
  | y :: s, h => by
    unfold RisesC at h
    rw [List.pairwise_cons] at h
    by_cases hy : at_ y = p
    · unfold delC
      rw [List.eraseP_cons_of_pos (by simpa using hy)]
      refine findC_none.2 fun x hx e => ?_
      have := h.1 x hx
      rw [hy, e, O.irrefl] at this
      cases this
    · have ih := find_del_self O (p := p) s h.2
      unfold delC at ih ⊢
      rw [List.eraseP_cons_of_neg (by simpa using hy)]
      refine findC_none.2 fun x hx => ?_
      rcases List.mem_cons.1 hx with rfl | hx
      · exact hy
      · exact findC_none.1 ih x hx
end
section
variable {C P : Type} [DecidableEq P] {at_ : C → P} {lt : P → P → Bool} (O : OrdC lt)
include O
theorem rises_put {c : C} : ∀ s : List C, RisesC at_ lt s → findC at_ s (at_ c) = none → RisesC at_ lt (putC at_ lt c s)
  | [], _, _ => by unfold putC RisesC; simp
  | y :: s, h, hf => by
    have hn := findC_none.1 hf
    unfold RisesC at h ⊢
    rw [List.pairwise_cons] at h
    unfold putC
    by_cases hl : lt (at_ c) (at_ y) = true
    · rw [if_pos hl, List.pairwise_cons, List.pairwise_cons]
      refine ⟨fun x hx => ?_, h⟩
      rcases List.mem_cons.1 hx with rfl | hx
      · exact hl
      · exact O.trans hl (h.1 x hx)
    · rw [if_neg hl, List.pairwise_cons]
      refine ⟨fun x hx => ?_, rises_put s h.2 (findC_none.2 fun x hx => hn x (by simp [hx]))⟩
      rcases putC_mem.1 hx with rfl | hx
      · cases hb : lt (at_ y) (at_ x) with
        | true => rfl
        | false => exact absurd (O.tri hb (by simpa using hl)) (hn y (by simp))
      · exact h.1 x hx
theorem put_del {p : P} {c : C} : ∀ s : List C, RisesC at_ lt s → findC at_ s p = some c → putC at_ lt c (delC at_ s p) = s
  | [], _, h => by cases h
  | y :: s, h, hf => by
    unfold RisesC at h
    rw [List.pairwise_cons] at h
    by_cases hy : at_ y = p
    · unfold findC at hf
      rw [List.find?_cons_of_pos (by simpa using hy)] at hf
      obtain rfl := Option.some.inj hf
      unfold delC
      rw [List.eraseP_cons_of_pos (by simpa using hy)]
      cases s with
      | nil => rfl
      | cons x s =>
        unfold putC
        rw [if_pos (h.1 x (by simp))]
    · have hf' : findC at_ s p = some c := by
        unfold findC at hf ⊢
        rwa [List.find?_cons_of_neg (by simpa using hy)] at hf
      have ih := put_del s h.2 hf'
      unfold delC at ih ⊢
      rw [List.eraseP_cons_of_neg (by simpa using hy)]
      unfold putC
      rw [if_neg (by rw [O.asym (h.1 c (findC_mem hf'))]; decide), ih]
/-- what was taken is put back, from the last one to the first -/
theorem take_back {ripe : C → Bool} : ∀ (ps : List P) (s s' sp : List C), RisesC at_ lt s → takeC at_ ripe s ps = some (s', sp) →
    RisesC at_ lt s' ∧ sp.map at_ = ps ∧ s'.length + sp.length = s.length ∧ addC at_ lt s' sp.reverse = some s
  | [], s, s', sp, h, ht => by
    unfold takeC at ht
    obtain ⟨rfl, rfl⟩ := Prod.mk.inj (Option.some.inj ht)
    exact ⟨h, rfl, rfl, rfl⟩
  | p :: ps, s, s', sp, h, ht => by
    unfold takeC at ht
    cases hf : findC at_ s p with
    | none => rw [hf] at ht; cases ht
    | some c =>
      rw [hf] at ht
      simp only at ht
      split at ht
      · cases hr : takeC at_ ripe (delC at_ s p) ps with
        | none => rw [hr] at ht; cases ht
        | some x =>
          rw [hr, Option.map_some] at ht
          obtain ⟨rfl, rfl⟩ := Prod.mk.inj (Option.some.inj ht)
          obtain ⟨i1, i2, i3, i4⟩ := take_back ps _ _ _ (rises_del h) hr
          refine ⟨i1, by rw [List.map_cons, i2, findC_at hf], by have := del_len s hf; rw [List.length_cons]; omega, ?_⟩
          rw [List.reverse_cons]
          have key : ∀ (cs : List C) (a b : List C) (d : C), addC at_ lt a cs = some b → addC at_ lt a (cs ++ [d]) = addC at_ lt b [d] := by
            intro cs
            induction cs with
            | nil => intro a b d hab; unfold addC at hab; rw [Option.some.inj hab]; rfl
            | cons c cs ih =>
              intro a b d hab
              unfold addC at hab
              rw [List.cons_append]
              unfold addC
              split at hab
              · cases hab
              · rename_i hnot
                rw [if_neg hnot]
                have := ih _ b d hab
                rw [this]
                rfl
          rw [key _ _ _ c i4]
          unfold addC
          have hat : at_ c = p := findC_at hf
          rw [if_neg (by rw [hat, find_del_self O s h]; simp), put_del O s h hf]
          rfl
      · cases ht
/-- what was made is taken off again, from the last one to the first -/
theorem add_back : ∀ (cs : List C) (s u : List C), RisesC at_ lt s → addC at_ lt s cs = some u →
    RisesC at_ lt u ∧ u.length = s.length + cs.length ∧ remC at_ u (cs.map at_).reverse = some s
  | [], s, u, h, ha => by
    unfold addC at ha
    obtain rfl := Option.some.inj ha
    exact ⟨h, rfl, rfl⟩
  | c :: cs, s, u, h, ha => by
    unfold addC at ha
    split at ha
    · cases ha
    · rename_i hnot
      have hf : findC at_ s (at_ c) = none := by simpa using hnot
      obtain ⟨i1, i2, i3⟩ := add_back cs _ u (rises_put O s h hf) ha
      refine ⟨i1, by rw [i2, putC_len, List.length_cons]; omega, ?_⟩
      rw [List.map_cons, List.reverse_cons]
      have key : ∀ (ps : List P) (a b : List C) (q : P), remC at_ a ps = some b → remC at_ a (ps ++ [q]) = remC at_ b [q] := by
        intro ps
        induction ps with
        | nil => intro a b q hab; unfold remC at hab; rw [Option.some.inj hab]; rfl
        | cons p ps ih =>
          intro a b q hab
          unfold remC at hab
          rw [List.cons_append]
          unfold remC
          split at hab
          · rename_i hin
            rw [if_pos hin]
            have := ih _ b q hab
            rw [this]
            rfl
          · cases hab
      rw [key _ _ _ (at_ c) i3]
      unfold remC
      rw [if_pos (by rw [find_put_self s hf]; rfl), del_put s hf]
      rfl
end
section
variable {C P : Type} [DecidableEq P] {at_ : C → P} {lt : P → P → Bool}
/-- coins that are not spent stay -/
theorem take_kept {ripe : C → Bool} {p : P} : ∀ (ps : List P) (s s' sp : List C), takeC at_ ripe s ps = some (s', sp) → (∀ c ∈ sp, at_ c ≠ p) → findC at_ s' p = findC at_ s p
  | [], s, s', sp, ht, _ => by
    unfold takeC at ht
    obtain ⟨rfl, rfl⟩ := Prod.mk.inj (Option.some.inj ht)
    rfl
  | q :: ps, s, s', sp, ht, hn => by
    unfold takeC at ht
    cases hf : findC at_ s q with
    | none => rw [hf] at ht; cases ht
    | some c =>
      rw [hf] at ht
      simp only at ht
      split at ht
      · cases hr : takeC at_ ripe (delC at_ s q) ps with
        | none => rw [hr] at ht; cases ht
        | some x =>
          rw [hr, Option.map_some] at ht
          obtain ⟨rfl, rfl⟩ := Prod.mk.inj (Option.some.inj ht)
          have h1 := take_kept ps _ _ _ hr (fun d hd => hn d (by simp [hd]))
          have h2 : p ≠ q := fun e => hn c (by simp) (by rw [findC_at hf, e])
          rw [h1, find_del h2]
      · cases ht
/-- what is found behind taking was there -/
theorem take_found {ripe : C → Bool} {p : P} : ∀ (ps : List P) (s s' sp : List C), takeC at_ ripe s ps = some (s', sp) → findC at_ s p = none → findC at_ s' p = none
  | [], s, s', sp, ht, h => by
    unfold takeC at ht
    obtain ⟨rfl, rfl⟩ := Prod.mk.inj (Option.some.inj ht)
    exact h
  | q :: ps, s, s', sp, ht, h => by
    unfold takeC at ht
    cases hf : findC at_ s q with
    | none => rw [hf] at ht; cases ht
    | some c =>
      rw [hf] at ht
      simp only at ht
      split at ht
      · cases hr : takeC at_ ripe (delC at_ s q) ps with
        | none => rw [hr] at ht; cases ht
        | some x =>
          rw [hr, Option.map_some] at ht
          obtain ⟨rfl, rfl⟩ := Prod.mk.inj (Option.some.inj ht)
          refine take_found ps _ _ _ hr (findC_none.2 fun d hd => findC_none.1 h d ?_)
          exact List.mem_of_mem_eraseP hd
      · cases ht
theorem add_kept {p : P} {c : C} : ∀ (cs : List C) (s u : List C), addC at_ lt s cs = some u → findC at_ s p = some c → findC at_ u p = some c
  | [], s, u, ha, h => by
    unfold addC at ha
    obtain rfl := Option.some.inj ha
    exact h
  | d :: cs, s, u, ha, h => by
    unfold addC at ha
    split at ha
    · cases ha
    · rename_i hnot
      have hne : at_ d ≠ p := fun e => hnot (by rw [e, h]; rfl)
      exact add_kept cs _ u ha (by rw [find_put hne]; exact h)
theorem add_found {p : P} : ∀ (cs : List C) (s u : List C), addC at_ lt s cs = some u → findC at_ s p = none → ∀ d, findC at_ u p = some d → d ∈ cs
  | [], s, u, ha, h, d, hd => by
    unfold addC at ha
    obtain rfl := Option.some.inj ha
    rw [h] at hd
    cases hd
  | c :: cs, s, u, ha, h, d, hd => by
    unfold addC at ha
    split at ha
    · cases ha
    · rename_i hnot
      by_cases hc : at_ c = p
      · have hn : findC at_ s (at_ c) = none := by simpa using hnot
        have h1 := add_kept cs _ u ha (find_put_self (lt := lt) s hn)
        rw [hc, hd] at h1
        rw [Option.some.inj h1]
        simp
      · have := add_found cs _ u ha (by rw [find_put hc]; exact h) d hd
        simp [this]
end
end Go.Proofs.Ytkjgmhamglhggaa
