/- Plain: what the laws of coins say of Apply and Undo. -/
import Derived.Test.YtkjgmhamglhggaaCoiT
namespace Go.Proofs.Ytkjgmhamglhggaa
open Go.RowKit
theorem toU32_val {i : Nat} (h : i < 4294967296) : (toU32 i).1 = (i : Int) := by
  show ((i % 4294967296 : Nat) : Int) = i
  omega
theorem toU32_eq {i j : Nat} (hi : i < 4294967296) (hj : j < 4294967296) (h : toU32 i = toU32 j) : i = j := by
  have := congrArg Subtype.val h
  rw [toU32_val hi, toU32_val hj] at this
  omega
theorem putC_end {c : CoinV} : ∀ {s : List CoinV}, (∀ x ∈ s, ltP c.at_ x.at_ = false) → putC CoinV.at_ ltP c s = s ++ [c]
  | [], _ => rfl
  | x :: s, h => by
    unfold putC
    rw [if_neg (by rw [h x (by simp)]; simp), putC_end fun y hy => h y (by simp [hy])]
    rfl
theorem add_made (id : K32) (h : IntV .u32) (b : Bool) : ∀ (os : List (IntV .i64 × K32)) (i : Nat) (s : List CoinV), i + os.length ≤ 4294967296 → (∀ x ∈ s, x.at_.1 = id ∧ x.at_.2.1 < (i : Int)) →
    addC CoinV.at_ ltP s (madeC id h b i os) = some (s ++ madeC id h b i os)
  | [], i, s, _, _ => by unfold madeC addC; rw [List.append_nil]
  | o :: os, i, s, hi, hs => by
    rw [List.length_cons] at hi
    have hv := toU32_val (i := i) (by omega)
    have hf : findC CoinV.at_ s (id, toU32 i) = none := findC_none.2 fun x hx e => by
      have := (hs x hx).2
      rw [e] at this
      simp only [hv] at this
      omega
    unfold madeC addC
    rw [if_neg (by rw [hf]; simp), putC_end fun x hx => ?_]
    · rw [add_made id h b os (i + 1) _ (by omega) fun x hx => ?_, List.append_assoc]
      · rfl
      · rcases List.mem_append.1 hx with h1 | h1
        · have := hs x h1
          exact ⟨this.1, by omega⟩
        · rw [List.mem_singleton] at h1
          subst h1
          exact ⟨rfl, by simp only [hv]; omega⟩
    · have h1 := hs x hx
      unfold ltP
      rw [h1.1, ltK_irrefl]
      simp only [hv]
      simp
      omega
theorem made_at (id : K32) (h : IntV .u32) (b : Bool) : ∀ (os : List (IntV .i64 × K32)) (i : Nat), ∀ x ∈ madeC id h b i os, x.at_.1 = id ∧ x.h = h ∧ x.b = b
  | [], _, x, hx => by cases hx
  | o :: os, i, x, hx => by
    unfold madeC at hx
    rcases List.mem_cons.1 hx with rfl | hx
    · exact ⟨rfl, rfl, rfl⟩
    · exact made_at id h b os (i + 1) x hx
theorem find_made (id : K32) (h : IntV .u32) (b : Bool) : ∀ (os : List (IntV .i64 × K32)) (i k : Nat), i + os.length ≤ 4294967296 → k < 4294967296 →
    findK (madeC id h b i os) (id, toU32 k) = if i ≤ k then os[k - i]?.map fun o => ⟨(id, toU32 k), o, h, b⟩ else none
  | [], i, k, _, _ => by unfold madeC; simp [findK, findC]
  | o :: os, i, k, hi, hk => by
    rw [List.length_cons] at hi
    unfold madeC findK findC
    by_cases e : i = k
    · subst e
      rw [List.find?_cons_of_pos (by simp), if_pos (Nat.le_refl _), Nat.sub_self]
      rfl
    · have hne : ¬ ((id, toU32 i) : PtV) = (id, toU32 k) := fun h1 => e (toU32_eq (by omega) hk (Prod.mk.inj h1).2)
      rw [List.find?_cons_of_neg (by simpa using hne)]
      have ih := find_made id h b os (i + 1) k (by omega) hk
      unfold findK findC at ih
      rw [ih]
      by_cases h1 : i ≤ k
      · rw [if_pos (by omega), if_pos h1, show k - i = k - (i + 1) + 1 by omega, List.getElem?_cons_succ]
      · rw [if_neg (by omega), if_neg h1]
theorem find_made_other (id : K32) (h : IntV .u32) (b : Bool) (os : List (IntV .i64 × K32)) (i : Nat) (p : PtV) (hp : p.1 ≠ id) : findK (madeC id h b i os) p = none :=
  findC_none.2 fun x hx e => hp (by rw [← e]; exact (made_at id h b os i x hx).1)
theorem made_app (id : K32) (h : IntV .u32) (b : Bool) (q : IntV .i64 × K32) : ∀ (os : List (IntV .i64 × K32)) (i : Nat), madeC id h b i (os ++ [q]) = madeC id h b i os ++ [⟨(id, toU32 (i + os.length)), q, h, b⟩]
  | [], i => rfl
  | o :: os, i => by
    rw [List.cons_append]
    unfold madeC
    rw [made_app id h b q os (i + 1), List.length_cons, show i + 1 + os.length = i + (os.length + 1) by omega]
    rfl
theorem del_end {s : List CoinV} {c : CoinV} (h : findK s c.at_ = none) : delC CoinV.at_ (s ++ [c]) c.at_ = s := by
  unfold delC
  rw [List.eraseP_append_right]
  · simp
  · intro x hx
    have := findC_none.1 h x hx
    simpa using this
/-- what a transaction that spends nothing makes of no coins -/
theorem apply_made (T : TxV) (id : K32) (h : IntV .u32) (hT : T.ins = [] ∨ coinF T = true) (hn : T.outs.length ≤ 1000) : applyR [] T id h = ((madeC id h (coinF T) 0 T.outs, []), 0) := by
  have ht : takeF [] T h = some ([], []) := by
    unfold takeF
    split
    · rfl
    · rcases hT with e | e
      · rw [e]; rfl
      · rename_i hc; exact absurd e hc
  have ha := add_made id h (coinF T) T.outs 0 [] (by omega) (fun x hx => by cases hx)
  have hF : applyF [] T id h = .ok (madeC id h (coinF T) 0 T.outs, []) := by
    unfold applyF
    rw [ht]
    simp only [ha, List.nil_append]
  unfold applyR
  rw [hF]
/-- a transaction that spends one coin, and makes none -/
theorem apply_one (l : List CoinV) (T : TxV) (id : K32) (h : IntV .u32) (p : PtV) (hi : T.ins = [p]) (ho : T.outs = []) (hp : p.1 ≠ zeroKey) :
    applyR l T id h = match findK l p with
      | none => (([], []), 160)
      | some c => if ripeF c h then ((delC CoinV.at_ l p, [c]), 0) else (([], []), 160) := by
  have hc : coinF T = false := by
    rw [coinF_one T (by rw [hi]; rfl)]
    refine decide_eq_false ?_
    simpa [hi] using hp
  have ht : takeF l T h = match findK l p with
      | none => none
      | some c => if ripeF c h then some (delC CoinV.at_ l p, [c]) else none := by
    unfold takeF
    rw [hc, hi]
    cases hf : findK l p with
    | none =>
      simp only [Bool.false_eq_true, if_false]
      exact take_no hf
    | some c =>
      cases hr : ripeF c h with
      | false =>
        simp only [Bool.false_eq_true, if_false, hr]
        exact take_raw hf hr
      | true =>
        simp only [Bool.false_eq_true, if_false, hr, if_true]
        rw [take_yes hf rfl hr]
        rfl
  unfold applyR applyF
  rw [ht, ho]
  cases hf : findK l p with
  | none => rfl
  | some c =>
    simp only
    cases ripeF c h <;> rfl
end Go.Proofs.Ytkjgmhamglhggaa
