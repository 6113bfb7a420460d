/- slices.IsSortedFunc, IndexFunc, ContainsFunc at keys. -/
import Derived.Test.YtimhophelecmjaaKeyO
import Derived.Test.YtimhophelecmjaaGenA
namespace Go.Proofs.Ytimhophelecmjaa
open Go.RowKit Go.Sort
theorem tyK : RowTy Try.prog 27 24 encK 32 :=
  ⟨Try.underlying27, by kernel_rfl, encK_len, encK_one, fun w => by simp [isAgg, run_underlying Try.underlying24], by omega⟩
theorem RowC.cast {w : World} {g o o' : Nat} {cs : List Value} (h : RowC w g o cs) (e : o' = o) : RowC w g o' cs := e ▸ h
theorem encK_bytes (x : K32) : (encK x).toArray = bytesA x.1 := encK_arr x
theorem rises_adj : ∀ l : List K32, (∀ j (h : j + 1 < l.length), ltK l[j + 1] (l[j]'(by omega)) = false) → Rises l
  | [], _ => List.Pairwise.nil
  | [_], _ => by simp
  | a :: b :: l, h => by
    have ih := rises_adj (b :: l) (fun j hj => h (j + 1) (by simpa using hj))
    have h0 := h 0 (by simp)
    simp only [List.getElem_cons_zero, List.getElem_cons_succ] at h0
    refine List.pairwise_cons.2 ⟨fun x hx => ?_, ih⟩
    rcases List.mem_cons.1 hx with rfl | hx
    · exact h0
    · exact ltK_ntrans ((List.pairwise_cons.1 ih).1 x hx) h0
theorem rises_adj' {l : List K32} (h : Rises l) (j : Nat) (hj : j + 1 < l.length) : ltK l[j + 1] (l[j]'(by omega)) = false :=
  List.pairwise_iff_getElem.1 h j (j + 1) (by omega) hj (by omega)
/-- the place of the first one of which p holds, or -1 -/
def firstI (p : K32 → Bool) (l : List K32) : Int := if l.any p = true then (l.findIdx p : Int) else -1
theorem firstI_at (p : K32 → Bool) (l : List K32) (k : Nat) (hk : k < l.length) (hp : p l[k] = true) (hb : ∀ j (h : j < l.length), j < k → p l[j] = false) : firstI p l = k := by
  unfold firstI
  rw [if_pos (List.any_eq_true.2 ⟨_, List.getElem_mem hk, hp⟩)]
  congr 1
  exact (List.findIdx_eq hk).2 ⟨hp, fun j hj => hb j (by omega) hj⟩
theorem firstI_none (p : K32 → Bool) (l : List K32) (hb : ∀ j (h : j < l.length), p l[j] = false) : firstI p l = -1 := by
  unfold firstI
  rw [if_neg]
  intro h
  obtain ⟨x, hx, hp⟩ := List.any_eq_true.1 h
  obtain ⟨i, hi, rfl⟩ := List.getElem_of_mem hx
  rw [hb i hi] at hp; cases hp
theorem firstI_geq (p : K32 → Bool) (l : List K32) : decide ((0 : Int) ≤ firstI p l) = l.any p := by
  unfold firstI
  cases l.any p <;> simp
end Go.Proofs.Ytimhophelecmjaa
