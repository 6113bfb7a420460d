/- Size, Sigs and Notes, as the laws' walks want them. -/
import Derived.Test.YthpnmmilioonhaaDoorBkX
import Derived.Test.YthpnmmilioonhaaDoorBkN
import Derived.Test.YthpnmmilioonhaaDoorBkH
namespace Go.Proofs.YthpnmmilioonhaaDoor
open Go.RowKit Go.Shelf
theorem heavyB_parts {a : BkA} (h : heavyB a.B = false) : a.txs.length ≤ 40 ∧ ∀ t ∈ a.txs, heavyF t.T = false := by
  unfold heavyB at h
  rw [Bool.or_eq_false_iff, decide_eq_false_iff_not, List.any_eq_false] at h
  have h1 := h.1
  rw [show a.B.txs.length = a.txs.length from List.length_map _] at h1
  exact ⟨by omega, fun t ht => by simpa using h.2 t.T (List.mem_map.2 ⟨t, ht, rfl⟩)⟩
theorem heavyF_parts {T : TxV} (h : heavyF T = false) : T.ins.length ≤ 60 ∧ T.notes.length ≤ 60 := by
  unfold heavyF at h
  rw [decide_eq_false_iff_not] at h
  omega
theorem sigsB_ok : SigsBOk := fun a w h hv =>
  callsIn_wide.1 (sigs_in a w h (heavyB_parts hv).1 (fun t ht => (heavyF_parts ((heavyB_parts hv).2 t ht)).1))
theorem notesB_ok : NotesBOk := fun a w h hv => by
  refine (callsIn_wide.1 (notes_in a w h (heavyB_parts hv).1 (fun t ht => (heavyF_parts ((heavyB_parts hv).2 t ht)).2))).mono ?_
  rintro e w' ⟨v, rfl, ho, hb⟩
  obtain ⟨A, c, rfl⟩ := own_shape ho
  exact ⟨⟨A, c, rfl, ho⟩, hb⟩
theorem sizeB_ok : SizeBOk := fun a w h => by
  have HI := Lib.hid (show a.In (w.alloc (.cells a.cells.toArray 32)) _ from TxA.In.on h ((Below.refl _ _).alloc (Nat.le_refl _) _) (Nat.le_refl _))
  have HB := Lib.hid (show RowC (w.alloc (.cells a.cells.toArray 32)) w.heap.size 0 a.cells from RowC.of_blk (Blk.new _ _ _))
  clear h
  unfold sizeF
  go_enter Tryd.func16, Tryd.ntmps16
  go_wp2_with ((with_reducible refine at_load 1 ?_); refine tyTx.wpList_load rfl (.tmp 1) rfl w.heap.size 0 rfl a HB.out ?_)
  refine (encA_any a _ HI.out).mono ?_
  rintro e w1 ⟨rfl, b1⟩
  unfold encV
  have B1 := Lib.hid (((Below.refl w.heap.size w).alloc (Nat.le_refl _) (.cells a.cells.toArray 32)).trans (b1.mono (by simp)))
  clear b1
  go_wp2_with fail
  go_ret
  exact ⟨by simp, B1.out⟩
end Go.Proofs.YthpnmmilioonhaaDoor
