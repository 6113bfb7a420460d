/- The document's Decode of a block. Written by genBDec.py. -/
import Derived.Test.YthpnmmilioonhaaDoorBkO
import Derived.Test.YthpnmmilioonhaaDoorTxAllC
namespace Go.Proofs.YthpnmmilioonhaaDoor
open Go.RowKit
/-- how the document's Decode of a block ends -/
def EndBD (w : World) (x : Except Int BlockV) (e : Ending) (w' : World) : Prop :=
  Below w.heap.size w w' ∧ match x with
  | .ok B => ∃ b : BkA, b.B = B ∧ e = .returned (.tuple #[.agg b.cells.toArray, .int .i64 0]) ∧ BO w' b
  | .error er => e = .returned (.tuple #[.agg bZ.cells.toArray, .int .i64 er])
theorem EndBD.err {w w' : World} {er : Int} {e : Ending} (hb : Below w.heap.size w w') (h : e = .returned (.tuple #[.agg bZ.cells.toArray, .int .i64 er])) : EndBD w (.error er) e w' := ⟨hb, h⟩
/-- what lies there while Decode is at work: the answer's place -/
structure BdS (w0 : World) (w : World) : Prop where
  below : Below w0.heap.size w0 w
  k2 : ∃ cs : Array Value, cs.size = 66 ∧ Blk w w0.heap.size 27 cs
theorem BdS.call {w0 w w' : World} (h : BdS w0 w) (hb : Below w.heap.size w w') : BdS w0 w' where
  below := h.below.trans (hb.mono h.below.size)
  k2 := by obtain ⟨cs, h1, h2⟩ := h.k2; exact ⟨cs, h1, below_blk hb h2 h2.lt⟩
theorem BdS.lt {w0 w : World} (h : BdS w0 w) : w0.heap.size < w.heap.size := by obtain ⟨cs, _, h2⟩ := h.k2; exact h2.lt
theorem BdS.one (w0 : World) (cs : Array Value) (h : cs.size = 66) : BdS w0 (w0.alloc (.cells cs 27)) := ⟨(Below.refl _ _).alloc (Nat.le_refl _) _, ⟨cs, h, Blk.new _ _ _⟩⟩
theorem BdS.step {w0 w w' : World} (h : BdS w0 w) {B : Nat} (hb : Below B w w') (hB : w0.heap.size < B) : BdS w0 w' where
  below := h.below.trans (hb.mono (by omega))
  k2 := by obtain ⟨cs, h1, h2⟩ := h.k2; exact ⟨cs, h1, below_blk hb h2 hB⟩
theorem BdS.only {w0 w w' : World} {g : Nat} (h : BdS w0 w) (o : Only [g] w w') (hg : w0.heap.size < g) : BdS w0 w' where
  below := h.below.trans (o.below (by simp; omega))
  k2 := by obtain ⟨cs, h1, h2⟩ := h.k2; exact ⟨cs, h1, o.blk h2 (by simp; omega)⟩
/-- what Decode answers, by what is read of the transactions -/
def blkX (p r : K32) (z : IntV .u32) (x : Except Int (List TxV × List UInt8)) : Except Int BlockV := match x with
  | .error e => .error e
  | .ok (l, s) => if s = [] then .ok ⟨p, r, z, l⟩ else .error 50
theorem built_Blk (t : TypeId) (ht : t = 27) (k m : K32) (z : IntV .u32) : Tryd.prog.built t [(0, .agg (encK k).toArray), (1, .agg (encK m).toArray), (2, .int .u32 z.1)] = some (({ bZ with prev := k, root := m, nonce := z } : BkA)).cells.toArray := by
  subst ht
  obtain ⟨l, hl⟩ := k
  iterate 32 (rcases l with _ | ⟨b, l⟩; · simp at hl)
  rcases l with _ | ⟨b, l⟩
  · obtain ⟨l, hm⟩ := m
    iterate 32 (rcases l with _ | ⟨b, l⟩; · simp at hm)
    rcases l with _ | ⟨b, l⟩
    · kernel_rfl
    · simp at hm
  · simp at hl
end Go.Proofs.YthpnmmilioonhaaDoor
