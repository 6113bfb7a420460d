/- money's Add, Sub, Sum and Fee, by told and their closures. -/
import Derived.Test.YticphjnabecanaaMonB
import Derived.Test.YticphjnabecanaaGenA
namespace Go.Proofs.Yticphjnabecanaa
open Go.RowKit
theorem reads_blk {w : World} {g B n : Nat} {t : TypeId} {zs : List Int} (h : Blk w g t (ints zs).toArray) (hB : g < B) (hn : n = zs.length) : Reads w B 1 (some ⟨g, 0, none⟩) n (ints zs) :=
  ⟨by rw [ints_len, hn]; omega, fun _ => ⟨_, rfl, hB, fun j u hu => by
    have e : (⟨g, 0, none⟩ : Addr).add j = ⟨g, j, none⟩ := by unfold Addr.add; split <;> simp_all
    rw [e, h.cell j]; simpa using hu⟩⟩
theorem sum_pair (a b : Int) : sumO 0 [a, b] = addO a b := by
  simp only [sumO]
  have e : addO 0 a = if mayB a then some a else none := by
    unfold addO
    have h0 : mayB 0 = true := by decide
    cases h : mayB a <;> simp [h0, h]
  rw [e]
  cases h : mayB a
  · simp [addO, h]
  · simp only [if_true]
    cases addO a b <;> rfl
theorem sum_one (a : Int) : sumO 0 [a] = if mayB a then some a else none := by
  simp only [sumO]
  unfold addO
  have h0 : mayB 0 = true := by decide
  cases h : mayB a <;> simp [h0, h]
theorem endO_below {o : Option Int} {w w1 : World} {P : Program} {f : FuncId} {args : Array Value} (h : Calls P f args w1 fun e w' => e = endO o ∧ w1 = w') (hb : Below w.heap.size w w1) :
    Calls P f args w1 fun e w' => e = endO o ∧ Below w.heap.size w w' := h.mono fun _ _ ⟨he, hw⟩ => ⟨he, hw ▸ hb⟩
theorem sumC_any (p : Addr) (zs : List Int) (A : Option Addr) (n cap B : Nat) (w : World) (hr : Reads w B 1 A n (ints zs)) (hm : n ≤ maxLen) (hp : w.cell? p = some (.slice A n cap)) :
    Calls Try.prog 79 #[.pointer (some p)] w fun e w' => e = endO (sumO 0 zs) ∧ Below w.heap.size w w' := by
  have HR := Lib.hid hr
  clear hr
  obtain ⟨o, ho⟩ : ∃ o, sumO 0 zs = o := ⟨_, rfl⟩
  rw [ho]
  have HO := Lib.hid ho
  clear ho
  go_enter Try.func79, Try.ntmps79
  go_wp2_with fail
  clear hp
  refine (msum_any zs A n cap B _ HR.out hm).mono ?_
  rintro e w' ⟨rfl, rfl⟩
  rw [HO.out]
  cases o with
  | none => exact ⟨rfl, rfl, Below.refl _ _⟩
  | some s =>
    simp only [endO]
    go_wp2
    go_ret
    exact ⟨rfl, Below.refl _ _⟩
theorem told_any (g : FuncId) (caps : Array Value) (o : Option Int) (w : World) (hen : ∀ W, (callFunc g caps).run Try.prog W = .ok (.enter g caps) W)
    (hf : ∀ w1, Below w.heap.size w w1 → Calls Try.prog g caps w1 fun e w' => e = endO o ∧ Below w1.heap.size w1 w') :
    Calls Try.prog 78 #[.func (.func g) #[] caps] w fun e w' => e = .returned (resO o) ∧ Below w.heap.size w w' := by
  cases o with
  | none => exact told_none g caps w hen hf
  | some n => exact told_some g caps n w hen hf
theorem enter_sum (caps : Array Value) (W : World) : (callFunc 79 caps).run Try.prog W = .ok (.enter 79 caps) W := by simp [go_sem]
theorem gsum_any (zs : List Int) (A : Option Addr) (n cap B : Nat) (w : World) (hr : Reads w B 1 A n (ints zs)) (hB : B ≤ w.heap.size) (hm : n ≤ maxLen) :
    Calls Try.prog 64 #[.slice A n cap] w fun e w' => e = .returned (resO (sumO 0 zs)) ∧ Below w.heap.size w w' := by
  have hmf : ∀ (fn : Fn) (first cap : Array Value) (w : World), (Instr.makeFunc fn first cap).run Try.prog w = .ok (.func fn first cap) w := fun _ _ _ _ => rfl
  have HR := Lib.hid hr
  clear hr
  go_enter Try.func64, Try.ntmps64
  go_wp2_with fail
  have hB1 : Below w.heap.size w (w.alloc (.cells #[.slice A n cap] 32)) := (Below.refl _ _).alloc (Nat.le_refl _) _
  refine (told_any 79 #[.pointer (some ⟨w.heap.size, 0, none⟩)] (sumO 0 zs) _ (enter_sum _)
    (fun w1 b1 => sumC_any _ zs A n cap B w1 ((HR.out.alloc hB _).below (b1.mono (by simp; omega))) hm ((below_blk b1 (Blk.new w 32 _) (by simp)).cell 0))).mono ?_
  rintro e w2 ⟨rfl, b2⟩
  have B2 := hB1.trans (b2.mono (by simp))
  simp only [resO]
  go_wp2
  go_ret2
  exact ⟨rfl, B2⟩
end Go.Proofs.Yticphjnabecanaa
