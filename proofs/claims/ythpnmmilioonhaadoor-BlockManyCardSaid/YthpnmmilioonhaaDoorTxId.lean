/- TxId: TxI, TxRi, in one text. -/
import Derived.Test.YthpnmmilioonhaaDoorTxAllB
import Derived.Test.YthpnmmilioonhaaDoorShaAll
import Derived.Test.YthpnmmilioonhaaDoorRefAll
import Derived.Test.YthpnmmilioonhaaDoorTxAllC
/- tx.Id, and the document's. Written by genId.py. -/
namespace Go.Proofs.YthpnmmilioonhaaDoor
open Go.RowKit
theorem dblL_len (l : List UInt8) : (dblL l).length = 32 := by simp [dblL, sumL_len]
/-- a transaction's name, or the error -/
def idF (T : TxV) : K32 × Int := match encF T with
  | (s, e) => if e = 0 then (⟨dblL s, dblL_len s⟩, 0) else (zeroKey, e)
def idV (x : K32 × Int) : Value := .tuple #[.agg (encK x.1).toArray, .int .i64 x.2]
theorem idF_cases (T : TxV) : (OkTx T ∧ encF T = (txB T, 0) ∧ idF T = (⟨dblL (txB T), dblL_len _⟩, 0)) ∨ ∃ er, er ≠ 0 ∧ encF T = ([], er) ∧ idF T = (zeroKey, er) := by
  unfold idF
  rcases encF_cases T with ⟨h, h1⟩ | h1 | h1
  · exact .inl ⟨h, h1, by rw [h1]; rfl⟩
  · exact .inr ⟨51, by decide, h1, by rw [h1]; rfl⟩
  · exact .inr ⟨1, by decide, h1, by rw [h1]; rfl⟩
theorem txB_le {T : TxV} (h : OkTx T) : (txB T).length ≤ 6000 := by
  have hlen := txB_len T h
  obtain ⟨o1, o2, o3, o4, _⟩ := h
  split at hlen <;> omega
end Go.Proofs.YthpnmmilioonhaaDoor
/- The document's Id of a transaction. Written by genRId.py. -/
namespace Go.Proofs.YthpnmmilioonhaaDoor
open Go.RowKit
end Go.Proofs.YthpnmmilioonhaaDoor
