/- keys.Has, Insert. -/
import Derived.Test.YtimhophelecmjaaKeyL
import Derived.Test.YtimhophelecmjaaGenA
namespace Go.Proofs.Ytimhophelecmjaa
open Go.RowKit Go.Sort
theorem own_mono {w : World} {base base' : Nat} {e : TypeId} {size n : Nat} {v : Value} {xs : List Value} (h : w.ownsRow base e size v n xs) (hb : base' ≤ base) : w.ownsRow base' e size v n xs :=
  ⟨h.1, h.2.imp id fun ⟨g, cap, cur, h1, h2, h3⟩ => ⟨g, cap, cur, h1, Nat.le_trans hb h2, h3⟩⟩
theorem zvK : ∃ zv, (Try.prog.info? 24).map (fun i => (i.zero, i.bytes)) = some (some zv, 32) ∧ zv.cells = (encK default).toArray := by
  have h : (Try.prog.info? 24).map (fun i => (i.zero, i.bytes)) = some (some (.agg (bytesA (List.replicate 32 0))), 32) := by kernel_rfl
  exact ⟨_, h, by rw [encK_arr]; rfl⟩
theorem own_of_blk {w : World} {base g n : Nat} {l : List K32} (hb : Blk w g 24 (cellsOf encK l).toArray) (hg : base ≤ g) (hn : l.length = n) (hm : n ≤ maxLen) : w.ownsRow base 24 32 (.slice (some ⟨g, 0, none⟩) n n) n (cellsOf encK l) :=
  ⟨by rw [cellsOf_len encK_len, hn], .inr ⟨g, n, _, rfl, hg, hb, Nat.le_refl _, hm, by simp [cellsOf_len encK_len, hn], by rw [List.take_of_length_le]; simp [cellsOf_len encK_len, hn]⟩⟩
end Go.Proofs.Ytimhophelecmjaa
