/- money.Fee's closure, and Fee. -/
import Derived.Test.YticphjnabecanaaMonC
import Derived.Deep.RegionWith
import Derived.BigQuiet
import Derived.Deep.QuietTactic
namespace Go.Proofs.Yticphjnabecanaa
open Go.RowKit
theorem feeO_ge (za zb : List Int) (x y bal : Int) (h1 : sumO 0 za = some x) (h2 : sumO 0 zb = some y) (h : 0 ≤ bal) : feeO za zb bal = (addO x bal).bind fun s => subO s y := by
  simp [feeO, h1, h2, h]
theorem feeO_lt (za zb : List Int) (x y bal : Int) (h1 : sumO 0 za = some x) (h2 : sumO 0 zb = some y) (h : ¬ 0 ≤ bal) : feeO za zb bal = (addO y (-bal)).bind fun s => subO x s := by
  simp [feeO, h1, h2, h]
theorem feeO_none (za zb : List Int) (bal : Int) (h : sumO 0 za = none ∨ sumO 0 zb = none) : feeO za zb bal = none := by
  unfold feeO
  rcases h with h | h
  · rw [h]
  · rw [h]; cases sumO 0 za <;> rfl
theorem sum_is (zs : List Int) (A : Option Addr) (n cap B : Nat) (x : Int) (w : World) (hr : Reads w B 1 A n (ints zs)) (hm : n ≤ maxLen) (hs : sumO 0 zs = some x) :
    Calls Try.prog 80 #[.slice A n cap] w fun e w' => e = .returned (.int .i64 x) ∧ w = w' := (msum_any zs A n cap B w hr hm).mono fun _ _ ⟨he, hw⟩ => ⟨he.trans (by rw [hs]; rfl), hw⟩
theorem sum_not (zs : List Int) (A : Option Addr) (n cap B : Nat) (w : World) (hr : Reads w B 1 A n (ints zs)) (hm : n ≤ maxLen) (hs : sumO 0 zs = none) :
    Calls Try.prog 80 #[.slice A n cap] w fun e w' => e = .panicked errCh ∧ w = w' := (msum_any zs A n cap B w hr hm).mono fun _ _ ⟨he, hw⟩ => ⟨he.trans (by rw [hs]; rfl), hw⟩
theorem sumP_any (a b : Int) (W : World) (ad : Addr) (B : Nat) (hr : Reads W B 1 (some ad) 2 (ints [a, b])) : Calls Try.prog 80 #[.slice (some ad) 2 2] W fun e w' => e = endO (addO a b) ∧ W = w' :=
  (msum_any [a, b] (some ad) 2 2 B W hr (by simp [maxLen])).mono fun _ _ ⟨h, hw⟩ => ⟨by rw [← sum_pair]; exact h, hw⟩
end Go.Proofs.Yticphjnabecanaa
