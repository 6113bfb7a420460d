/- money's May, must, less and sum: their contracts. -/
import Derived.Test.YtimhophelecmjaaGenA
import Derived.Test.YtimhophelecmjaaMonP
import Derived.WalkLawsBesides
namespace Go.Proofs.Ytimhophelecmjaa
open Go.RowKit
def ints (zs : List Int) : List Value := zs.map (.int .i64)
theorem ints_len (zs : List Int) : (ints zs).length = zs.length := List.length_map _
theorem ints_at {w : World} {B n : Nat} {A : Option Addr} {zs : List Int} {k : Nat} (h : Reads w B 1 A n (ints zs)) (hk : k < n) :
    ∃ ad, A = some ad ∧ w.cell? (ad.add k) = some (.int .i64 (zs.getD k 0)) := by
  obtain ⟨ad, u, e, _, hu, hc⟩ := h.at_ hk
  refine ⟨ad, e, ?_⟩
  have hl : k < zs.length := by have := h.1; rw [ints_len] at this; omega
  rw [hc]
  rw [ints, List.getElem?_map, List.getElem?_eq_getElem hl] at hu
  simp only [Option.map_some, Option.some.injEq] at hu
  rw [← hu, List.getD_eq_getElem?_getD, List.getElem?_eq_getElem hl]; rfl
theorem take_snocD (zs : List Int) (k : Nat) (hk : k < zs.length) : zs.take (k + 1) = zs.take k ++ [zs.getD k 0] := by
  rw [List.take_succ_eq_append_getElem hk, List.getD_eq_getElem?_getD, List.getElem?_eq_getElem hk]; rfl
end Go.Proofs.Ytimhophelecmjaa
