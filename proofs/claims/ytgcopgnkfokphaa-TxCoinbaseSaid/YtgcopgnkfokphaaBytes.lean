/- Plain: an array of bytes as the model keeps it. No program is named here. -/
import Derived.WalkKit
namespace Go.Proofs.Ytgcopgnkfokphaa
open Go.RowKit
def bytesA (l : List UInt8) : Array Value := (l.map fun b => Value.int .u8 (b.toNat : Int)).toArray
theorem bytesA_size (l : List UInt8) : (bytesA l).size = l.length := by simp [bytesA]
theorem bytesA_get (l : List UInt8) (i : Nat) (h : i < l.length) : (bytesA l)[i]? = some (.int .u8 (l[i].toNat : Int)) := by simp [bytesA, h]
theorem bytesA_set (l : List UInt8) (k : Nat) (b : UInt8) : (bytesA l).setIfInBounds k (.int .u8 (b.toNat : Int)) = bytesA (l.set k b) := by
  simp [bytesA, List.map_set]
theorem bytesA_one (l : List UInt8) : (bytesA l).all (·.oneCell') = true := by
  rw [Array.all_eq_true_iff_forall_mem]; intro x hx; simp only [bytesA, List.mem_toArray, List.mem_map] at hx; obtain ⟨_, _, rfl⟩ := hx; rfl
theorem bytesA_inj {l m : List UInt8} (h : bytesA l = bytesA m) : l = m := by
  unfold bytesA at h
  have h' := congrArg Array.toList h
  simp only at h'
  refine (List.map_inj_right ?_).1 h'
  intro a b e
  injection e with _ e
  exact UInt8.toNat_inj.1 (by omega)
/-- n bytes by a function -/
def tab {α : Type} (n : Nat) (f : Nat → α) : List α := (List.range n).map f
theorem tab_len {α : Type} (n : Nat) (f : Nat → α) : (tab n f).length = n := by simp [tab]
theorem tab_get {α : Type} (n : Nat) (f : Nat → α) (i : Nat) (h : i < (tab n f).length) : (tab n f)[i] = f i := by simp [tab]
theorem tab_set {α : Type} (n : Nat) (f g : Nat → α) (k : Nat) (b : α) (h : ∀ i, i < n → g i = if i = k then b else f i) : (tab n f).set k b = tab n g := by
  apply List.ext_getElem
  · simp [tab]
  · intro i h1 h2
    have hi : i < n := by simpa [tab] using h2
    rw [List.getElem_set, tab_get, tab_get, h i hi]
    by_cases e : k = i
    · subst e; simp
    · simp [e, Ne.symm e]
theorem tab_congr {α : Type} (n : Nat) (f g : Nat → α) (h : ∀ i, i < n → f i = g i) : tab n f = tab n g := by
  unfold tab; apply List.map_congr_left; intro a ha; exact h a (by simpa using ha)
end Go.Proofs.Ytgcopgnkfokphaa
