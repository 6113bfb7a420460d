/- 'make([]T, n)' of one-cell elements: the run, and what the new row holds. Over any program. -/
import Derived.Test.YtgcopgnkfokphaaOnly
import Derived.Laws.OwnMore
namespace Go.Proofs.Ytgcopgnkfokphaa
open Go.RowKit
theorem run_make_one {P : Program} (t e : TypeId) (z : Value) (bytes : Nat) (ht : P.underlying t = some (.slice e)) (hi : (P.info? e).map (fun i => (i.zero, i.size, i.bytes)) = some (some z, 1, bytes)) (hz : z.cells = #[z]) (hb : bytes ≤ 64)
    (k1 k2 : IntKind) (n : Nat) (hn : n ≤ 1000000000) (w : World) : (Instr.makeSlice t (.int k1 (n : Int)) (.int k2 (n : Int))).run P w = .ok (.slice (some ⟨w.heap.size, 0, none⟩) n n) (w.alloc (.cells (madeCells #[z] n) e)) := by
  obtain ⟨i, hi0, hz0, hz1, hz2⟩ := info_parts hi
  have hbn : i.bytes * n ≤ 64 * 1000000000 := Nat.mul_le_mul (by omega) hn
  have h := run_make_rowN (P := P) t e i z ht hi0 hz0 k1 k2 n n (Nat.le_refl _) (by omega) (by omega) w
  rw [hz, hz1, Nat.mul_one] at h
  exact h
theorem made_get (z : Value) (n i : Nat) (h : i < n) : (madeCells #[z] n)[i]? = some z := by
  have e := toList_madeCells_one z n
  rw [← Array.getElem?_toList, e, List.getElem?_replicate, if_pos h]
end Go.Proofs.Ytgcopgnkfokphaa
