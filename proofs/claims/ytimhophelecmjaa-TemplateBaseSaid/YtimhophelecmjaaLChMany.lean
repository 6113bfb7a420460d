/- CheckMany's walk. Written by genLCm.py. -/
import Derived.Test.YtimhophelecmjaaLChk
namespace Go.Proofs.Ytimhophelecmjaa
open Go.RowKit
theorem aa_grown {w w' : World} {base : Nat} {e : TypeId} {size n : Nat} {v : Value} {xs : List Value} (h : w.ownsRow base e size v n xs) (hg : w.grownBy w' v.ownBlock) (hB : base ≤ w.heap.size) : Below base w w' := (Below.refl _ _).grown hg hB (own_base h)
theorem aa_congr {α : Type} {enc : α → List Value} {w : World} {base : Nat} {e : TypeId} {size : Nat} {v : Value} {l m : List α} (h : w.ownsRow base e size v l.length (cellsOf enc l)) (e' : l = m) : w.ownsRow base e size v m.length (cellsOf enc m) := e' ▸ h
theorem aa_nil {w : World} {g : Nat} {base : Nat} {e : TypeId} {k : Nat} (hb : Blk w g e #[]) (hg : base ≤ g) : w.ownsRow base e k (.slice (some ⟨g, 0, none⟩) 0 0) 0 [] :=
  ⟨by simp, .inr ⟨g, 0, #[], rfl, hg, hb, Nat.le_refl _, Nat.zero_le _, by simp, by simp⟩⟩
theorem chzsK : ((Try.prog.info? 24).bind (·.zero)).isSome = true := by kernel_rfl
theorem chRow_drew {α : Type} {enc : α → List Value} {k c : Nat} {w : World} {A : Option Addr} {l : List α} (h : RowIn enc k w w.heap.size A c l) : RowIn enc k w.drew w.drew.heap.size A c l := ⟨h.le, h.max, h.cells⟩
/-- the notes behind j rounds -/
def chN (a : TxA) (k : K32) (j : Nat) : List K32 := a.T.notes ++ List.replicate j k
theorem chN_succ (a : TxA) (k : K32) (j : Nat) : chN a k j ++ [k] = chN a k (j + 1) := by
  unfold chN
  rw [List.append_assoc, List.replicate_succ']
theorem chN_len (a : TxA) (k : K32) (j : Nat) : (chN a k j).length = a.T.notes.length + j := by unfold chN; rw [List.length_append, List.length_replicate]
def chD (a : TxA) (k : K32) (j : Nat) (A : Option Addr) (c : Nat) : TxA := { a with T := { a.T with notes := chN a k j }, At := A, ct := c }
theorem chD_zero (a : TxA) (k : K32) : chD a k 0 a.At a.ct = a := by unfold chD chN; simp
theorem chD_c5 {a : TxA} {k : K32} {j : Nat} {A : Option Addr} {c g : Nat} {W : World} (h : Blk W g 29 (chD a k j A c).cells.toArray) : W.cell? ⟨g, 36, none⟩ = some (.slice A (chN a k j).length c) := TxA.c5 (RowC.of_blk h)
theorem chD_set (a : TxA) (k : K32) (j : Nat) (A A6 : Option Addr) (c c6 : Nat) : (chD a k j A c).cells.toArray.setIfInBounds 36 (.slice A6 (chN a k j ++ [k]).length c6) = (chD a k (j + 1) A6 c6).cells.toArray := by
  rw [chN_succ]
  exact tx_set_notes (chN a k (j + 1)) A6 c6
theorem ch_many {T : TxV} {b : Bool} (h : 40 < T.notes.length) : checkF T b = 51 := by
  have e : (encF T).2 = 51 := by unfold encF; rw [if_pos (by omega)]
  rw [checkF_enc (by rw [e]; decide), e]
end Go.Proofs.Ytimhophelecmjaa
