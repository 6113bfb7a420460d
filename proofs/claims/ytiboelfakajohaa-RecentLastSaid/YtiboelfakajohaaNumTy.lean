/- Numbers in slices as parameters. -/
import Derived.Test.YtiboelfakajohaaCellB
namespace Go.Proofs.Ytiboelfakajohaa
open Go.RowKit Go.ChangeShapes Go.WideShapes
section
variable {H : Type} {enc : TypeId × Value → H} {P : Program} {w : World} {base : Nat} {spare : Nat → Bool} {held : Bool} {t e : TypeId} {v : Value} {d : DataW H} {ps : List MemPlace}
theorem open_numsC {q : IntKind} {r : Reach} {b0 : Nat} (ht : P.underlying t = some (.slice e)) (he : P.underlying e = some (.int q)) (hc : P.cellsOf e = 1) (hval : Value.okWide P w r b0 t v) (hd : DataW.Trod enc P w base spare held t v d ps) :
    ∃ A c l, v = .slice A (l : List (IntV q)).length c ∧ RowIn (enc1 q) 1 w w.heap.size A c l := by
  obtain ⟨A, n, cap, rfl⟩ := okWide_slice ht hval
  obtain ⟨fuel, hf⟩ := hd
  have hf' : DataW.trod enc P w base spare held fuel t [.slice A n cap] = some (d, ps) := by simpa [Value.cells] using hf
  obtain ⟨A', c', l, h1, h2⟩ := trod_rows (enc1_len q) (by omega) ht hc (fun f cs x _ hx => trod_intV he hx) hf'
  exact ⟨A', c', l, List.head_eq_of_cons_eq h1, h2⟩
end
end Go.Proofs.Ytiboelfakajohaa
