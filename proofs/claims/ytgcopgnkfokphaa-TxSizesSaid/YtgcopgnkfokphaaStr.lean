/- Plain: a text's list of bytes, as the model compares texts. No program is named here. -/
import Derived.WalkKit
namespace Go.Proofs.Ytgcopgnkfokphaa
theorem ba_loop (bs : ByteArray) : ∀ (k i : Nat) (r : List UInt8), bs.size - i = k → ByteArray.toList.loop bs i r = r.reverse ++ bs.data.toList.drop i := by
  intro k
  induction k with
  | zero =>
    intro i r h
    unfold ByteArray.toList.loop
    rw [if_neg (by omega), List.drop_eq_nil_of_le (by simp; have : bs.data.size = bs.size := rfl; omega)]
    simp
  | succ k ih =>
    intro i r h
    have hi : i < bs.data.size := by have : bs.data.size = bs.size := rfl; omega
    have hd := List.drop_eq_getElem_cons (l := bs.data.toList) (i := i) (by simpa using hi)
    unfold ByteArray.toList.loop
    rw [if_pos (by omega), ih (i + 1) _ (by omega), hd]
    have : bs.get! i = bs.data.toList[i]'(by simpa using hi) := by
      show bs.data[i]! = _
      rw [getElem!_pos bs.data i hi]; simp
    rw [this]
    simp
theorem ba_toList (bs : ByteArray) : bs.toList = bs.data.toList := by
  unfold ByteArray.toList; rw [ba_loop bs _ 0 [] rfl]; simp
theorem bytes_ext {a b : ByteArray} (h : a.data.toList = b.data.toList) : a = b := by
  apply ByteArray.ext; exact Array.toList_inj.1 h
/-- texts compared -/
theorem ba_beq (a b : ByteArray) : (a.toList == b.toList) = decide (a = b) := by
  rw [ba_toList, ba_toList, Bool.eq_iff_iff, beq_iff_eq, decide_eq_true_iff]
  exact ⟨bytes_ext, fun h => by rw [h]⟩
end Go.Proofs.Ytgcopgnkfokphaa
