/- 'string(b)' where b is a row of bytes of the call's own. -/
import Derived.Test.YtgcopgnkfokphaaApp
import Derived.Test.YtgcopgnkfokphaaProg
import Derived.Laws.IdiomStrings
import Derived.Lib.UnsafeStr
namespace Go.Proofs.Ytgcopgnkfokphaa
open Go.RowKit
theorem conv_own {w : World} {base : Nat} {v : Value} {l : List UInt8} (h : w.ownsRow base 5 1 v l.length (Lib.byteCells l)) :
    (convert 74 9 v).run Try.prog w = .ok (.string ⟨l.toArray⟩) w := by
  have h' := h
  rcases h.2 with ⟨rfl, hn⟩ | ⟨g, cap, cur, rfl, hb, hh, r⟩
  · have hl : l = [] := List.eq_nil_of_length_eq_zero hn
    subst hl
    rw [run_convert_bytes_string w _ _ 5 none 0 0 Try.underlying74 Try.underlying5 Try.underlying9]
    rfl
  · refine run_convert_bytes_back (P := Try.prog) w 74 9 5 ⟨g, 0, none⟩ cap l Try.underlying74 Try.underlying5 Try.underlying9 (fun j hj => ?_)
    rw [show (⟨g, 0, none⟩ : Addr).add j = ⟨g, j, none⟩ by unfold Addr.add; split <;> simp_all, h'.cellAt j (by omega)]
    simp [Lib.byteCells, hj]
end Go.Proofs.Ytgcopgnkfokphaa
