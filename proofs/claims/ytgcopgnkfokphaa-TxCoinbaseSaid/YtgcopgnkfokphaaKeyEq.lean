/- '==' of two arrays of bytes. Over any program. -/
import Derived.Test.YtgcopgnkfokphaaBytes
import Derived.ChangeKeysEq
import Derived.Laws.StructEq
namespace Go.Proofs.Ytgcopgnkfokphaa
open Go.RowKit
section
variable {P : Program} (w : World)
theorem byte_beq (a b : UInt8) : ((a.toNat : Int) == (b.toNat : Int)) = (a == b) := by
  rw [Bool.eq_iff_iff, beq_iff_eq, beq_iff_eq]
  exact ⟨fun h => UInt8.toNat_inj.1 (by omega), fun h => by rw [h]⟩
theorem run_eqItems_bytes (d : Nat) {e : TypeId} (hu : P.underlying e = some (.int .u8)) (l m : List UInt8) : ∀ is : List Nat, (∀ j ∈ is, j < l.length ∧ j < m.length) →
    (Op.eqItems (d + 1) e 1 (bytesA l) (bytesA m) is).run P w = .ok (is.all fun j => l.getD j 0 == m.getD j 0) w
  | [], _ => by simp [Op.eqItems]
  | i :: is, h => by
    have hi := h i (by simp)
    have he : P.plainKey e = true := by simp [Program.plainKey, hu]
    have p1 := run_part_plain (P := P) w he (xs := bytesA l) (off := i * 1) (v := .int .u8 (l[i]'hi.1).toNat) (by rw [Nat.mul_one]; exact bytesA_get l i hi.1)
    have p2 := run_part_plain (P := P) w he (xs := bytesA m) (off := i * 1) (v := .int .u8 (m[i]'hi.2).toNat) (by rw [Nat.mul_one]; exact bytesA_get m i hi.2)
    have ih := run_eqItems_bytes d hu l m is (fun j hj => h j (by simp [hj]))
    have e1 : l.getD i 0 = l[i]'hi.1 := by simp [List.getD_eq_getElem?_getD, hi.1]
    have e2 : m.getD i 0 = m[i]'hi.2 := by simp [List.getD_eq_getElem?_getD, hi.2]
    simp only [Op.eqItems, Sem.run_bind, p1, p2, Result.andThen_ok, run_equalIn_int w d e .u8 .u8 _ _ hu, byte_beq, List.all_cons, e1, e2]
    cases hb : (l[i]'hi.1 == m[i]'hi.2)
    · simp
    · simpa using ih
theorem all_range_eq (l m : List UInt8) (h : l.length = m.length) : ((List.range l.length).all fun j => l.getD j 0 == m.getD j 0) = decide (l = m) := by
  rw [Bool.eq_iff_iff, List.all_eq_true, decide_eq_true_iff]
  constructor
  · intro ha
    apply List.ext_getElem h
    intro i h1 h2
    have := ha i (by simpa using h1)
    simpa [List.getD_eq_getElem?_getD, h1, h2] using this
  · rintro rfl j _
    simp
theorem run_eq_bytes {t e : TypeId} {n : Nat} (ht : P.underlying t = some (.array n e)) (hu : P.underlying e = some (.int .u8)) (hc : P.cellsOf e = 1) (l m : List UInt8) (hl : l.length = n) (hm : m.length = n) :
    (Op.equalIn 10000 t (.agg (bytesA l)) (.agg (bytesA m))).run P w = .ok (decide (l = m)) w := by
  obtain ⟨i, hi⟩ := info_of_underlying hu
  rw [show 10000 = 9999 + 1 from rfl, run_equalIn_array w 9999 _ _ ht hi, hc, run_eqItems_bytes w 9998 hu l m _ (fun j hj => by rw [List.mem_range] at hj; omega), ← hl, all_range_eq l m (by omega)]
end
end Go.Proofs.Ytgcopgnkfokphaa
