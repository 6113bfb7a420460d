/- What the project's block answers, as assumptions that each law's walk takes; the law's 'shown'. -/
import Derived.Test.YthpnmmilioonhaaDoorBkS
import Derived.Test.YthpnmmilioonhaaDoorBkQ
import Derived.Test.YthpnmmilioonhaaDoorBkD
namespace Go.Proofs.YthpnmmilioonhaaDoor
open Go.RowKit
theorem bstep {a b c : World} (h : Below a.heap.size a b) (k : Below b.heap.size b c) : Below a.heap.size a c := h.trans (k.mono h.size)
theorem bstr_list (s : ByteArray) : ∃ l : List UInt8, s = ⟨l.toArray⟩ ∧ l.length = s.size := ⟨s.data.toList, by cases s; simp only [Array.toArray_toList], ba_len s⟩
def errI : Except Int BlockV → Int
  | .ok _ => 0
  | .error e => e
def valB : Except Int BlockV → BlockV
  | .ok B => B
  | .error _ => bZ.B
theorem bZ_in (w : World) (B : Nat) : bZ.In w B := ⟨RowIn.nil (Nat.zero_le _), fun t ht => by cases ht⟩
theorem EndBD.got {w w' : World} {x : Except Int BlockV} {e : Ending} (h : EndBD w x e w') : ∃ a : BkA, a.B = valB x ∧ e = .returned (.tuple #[.agg a.cells.toArray, .int .i64 (errI x)]) ∧ a.In w' w'.heap.size ∧ Below w.heap.size w w' := by
  obtain ⟨b, h⟩ := h
  cases x with
  | ok B =>
    obtain ⟨a, ha, he, bo⟩ := h
    exact ⟨a, ha, he, bo.inn, b⟩
  | error er => exact ⟨bZ, rfl, h, bZ_in _ _, b⟩
/-- a block that the laws may come to: not many more transactions than are let in, each not too long -/
def MidB (B : BlockV) : Prop := B.txs.length ≤ 60 ∧ ∀ T ∈ B.txs, heavyF T = false
theorem midB_of {B : BlockV} (h : heavyB B = false) : MidB B := by
  unfold heavyB at h
  rw [Bool.or_eq_false_iff, decide_eq_false_iff_not, List.any_eq_false] at h
  exact ⟨by omega, fun T hT => by simpa using h.2 T hT⟩
def EncBOk : Prop := ∀ (a : BkA) (w : World), a.In w w.heap.size → MidB a.B → Calls Tryd.prog 7 #[.agg a.cells.toArray] w fun e w' => e = .returned (encV (encBF a.B)) ∧ Below w.heap.size w w'
def DecBOk : Prop := ∀ (l : List UInt8) (w : World), l.length ≤ 1000000 → Calls Tryd.prog 19 #[.string ⟨l.toArray⟩] w (EndBD w (decBlk l))
def NotesBOk : Prop := ∀ (a : BkA) (w : World), a.In w w.heap.size → heavyB a.B = false → Calls Tryd.prog 12 #[.agg a.cells.toArray] w fun e w' => (∃ A c, e = .returned (.slice A (notesF a.B.txs).length c) ∧ w'.ownsRow w.heap.size 23 32 (.slice A (notesF a.B.txs).length c) (notesF a.B.txs).length (cellsOf encK (notesF a.B.txs))) ∧ Below w.heap.size w w'
def SigsBOk : Prop := ∀ (a : BkA) (w : World), a.In w w.heap.size → heavyB a.B = false → Calls Tryd.prog 14 #[.agg a.cells.toArray] w fun e w' => e = .returned (.int .i64 (sigsF a.B.txs : Nat)) ∧ Below w.heap.size w w'
def SizeBOk : Prop := ∀ (a : TxA) (w : World), a.In w w.heap.size → Calls Tryd.prog 16 #[.agg a.cells.toArray] w fun e w' => e = .returned (.int .i64 (sizeF a.T : Nat)) ∧ Below w.heap.size w w'
/-- the law's block of one transaction of nothing -/
def txN : TxA := ⟨⟨toU32 0, [], [], zeroKey, [], [], toI64 0⟩, none, 0, none, 0, none, 0, none, 0⟩
def oneB (A : Option Addr) (c : Nat) : BkA := ⟨zeroKey, zeroKey, toU32 7, [txN], A, c⟩
def oneBV : BlockV := ⟨zeroKey, zeroKey, toU32 7, [txN.T]⟩
theorem encBF_one : ∃ s, encBF oneBV = (s, 0) ∧ s.length = 85 ∧ s[64]? = some 7 := ⟨(encBF oneBV).1, by decide +kernel, by decide +kernel, by decide +kernel⟩
theorem light_one : heavyB oneBV = false := by decide +kernel
theorem one_in (A : Option Addr) (c : Nat) (w : World) (B : Nat) (h : RowIn TxA.cells 38 w B A c [txN]) : (oneB A c).In w B := ⟨h, fun t ht => by
  obtain rfl : t = txN := List.mem_singleton.1 ht
  exact ⟨RowIn.nil (Nat.zero_le _), RowIn.nil (Nat.zero_le _), RowIn.nil (Nat.zero_le _), RowIn.nil (Nat.zero_le _)⟩⟩
set_option maxRecDepth 20000 in
theorem bshown_any (HE : EncBOk) (w : World) :
    Calls Tryd.prog 6 #[] w fun e w' => e = .returned (.bool true) ∧ Below w.heap.size w w' := by
  go_enter Tryd.func6, Tryd.ntmps6
  go_wp2_with (first
    | ((with_reducible refine at_build 4 ?_); refine wpList_built rfl 32 #[] rfl txN.cells.toArray (by kernel_rfl) ?_)
    | ((with_reducible refine at_buildSlice 5 ?_); refine tyTxR.wpList_build rfl zsTx 1 _ rfl [txN] rfl (by omega) (by omega) (by kernel_rfl) ?_)
    | ((with_reducible refine at_build 6 ?_); refine wpList_built rfl 27 #[(2, .const (.int .u32 7)), (3, .tmp 5)] rfl (oneB (some ⟨w.heap.size, 0, none⟩) 1).cells.toArray (by kernel_rfl) ?_))
  obtain ⟨s, h1, h2, h3⟩ := encBF_one
  have HS := Lib.hid (show encBF (oneB (some ⟨w.heap.size, 0, none⟩) 1).B = (s, 0) from h1)
  refine (HE (oneB (some ⟨w.heap.size, 0, none⟩) 1) _ (one_in _ _ _ _ ⟨Nat.le_refl _, (by decide), fun _ => ⟨w.heap.size, 0, rfl, by simp, RowC.of_blk (Blk.new _ _ _)⟩⟩) (midB_of light_one)).mono ?_
  rintro e w1 ⟨rfl, b1⟩
  rw [HS.out]
  unfold encV
  have hz : (s.toArray.size : Int) = 85 := by simp [h2]
  have h64 : 64 < s.length := by omega
  have h7 : s[64] = 7 := (List.getElem?_eq_some_iff.1 h3).2
  have B1 := Lib.hid (((Below.refl w.heap.size w).alloc (Nat.le_refl _) _).trans (b1.mono (by simp)))
  clear b1
  go_wp2
  · go_ret
    exact ⟨rfl, B1.out⟩
  · rename_i hno
    exact absurd (by show ((s.toArray[64]'(by simpa using h64)).toNat : Int) = 7; rw [List.getElem_toArray, h7]; rfl) hno
end Go.Proofs.YthpnmmilioonhaaDoor
