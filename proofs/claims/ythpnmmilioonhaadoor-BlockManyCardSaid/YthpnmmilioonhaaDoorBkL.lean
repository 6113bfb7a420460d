/- 'PastL L w w'': all that there was is as it was, but the blocks of L (what a closure has captured). -/
import Derived.Test.YthpnmmilioonhaaDoorTxAllB
namespace Go.Proofs.YthpnmmilioonhaaDoor
open Go.RowKit
structure PastL (L : List Nat) (w w' : World) : Prop where
  os : w'.os = w.os
  tape : w'.tape = w.tape
  output : w'.output = w.output
  size : w.heap.size ≤ w'.heap.size
  block : ∀ i, i < w.heap.size → i ∉ L → w'.heap[i]? = w.heap[i]?
section
variable {L L' : List Nat} {w w1 w2 : World} {g B : Nat} {t : TypeId} {cs : Array Value}
theorem PastL.refl (L : List Nat) (w : World) : PastL L w w := ⟨rfl, rfl, rfl, Nat.le_refl _, fun _ _ _ => rfl⟩
theorem PastL.trans (h : PastL L w w1) (k : PastL L w1 w2) : PastL L w w2 :=
  ⟨k.os.trans h.os, k.tape.trans h.tape, k.output.trans h.output, Nat.le_trans h.size k.size, fun i hi hg => (k.block i (Nat.lt_of_lt_of_le hi h.size) hg).trans (h.block i hi hg)⟩
theorem PastL.mono (h : PastL L w w1) (hL : ∀ i ∈ L, i ∈ L') : PastL L' w w1 := ⟨h.os, h.tape, h.output, h.size, fun i hi hg => h.block i hi (fun q => hg (hL i q))⟩
theorem PastL.of_below (h : Below w.heap.size w w1) : PastL L w w1 := ⟨h.os, h.tape, h.output, h.size, fun i hi _ => h.block i hi⟩
theorem PastL.of_only (h : Only L w w1) : PastL L w w1 := ⟨h.os, h.tape, h.output, Nat.le_of_eq h.size.symm, fun i _ hg => h.block i hg⟩
theorem PastL.only (h : PastL L w w1) (o : Only [g] w1 w2) (hg : g ∈ L ∨ w.heap.size ≤ g) : PastL L w w2 :=
  ⟨o.os.trans h.os, o.tape.trans h.tape, o.output.trans h.output, Nat.le_trans h.size (Nat.le_of_eq o.size.symm), fun i hi hi' => (o.block i (by
    intro q
    obtain rfl : i = g := by simpa using q
    rcases hg with h1 | h1
    · exact hi' h1
    · omega)).trans (h.block i hi hi')⟩
theorem PastL.blk (h : PastL L w w1) (hb : Blk w g t cs) (hg : g ∉ L) : Blk w1 g t cs := (h.block g hb.lt hg).trans hb
theorem PastL.below (h : PastL L w w1) (hL : ∀ i ∈ L, B ≤ i) (hw : B ≤ w.heap.size) : Below B w w1 := ⟨h.os, h.tape, h.output, h.size, fun i hi => h.block i (by omega) (fun q => by have := hL i q; omega)⟩
theorem PastL.step (h : PastL L w w1) (k : Below w1.heap.size w1 w2) : PastL L w w2 := h.trans (PastL.of_below k)
end
end Go.Proofs.YthpnmmilioonhaaDoor
