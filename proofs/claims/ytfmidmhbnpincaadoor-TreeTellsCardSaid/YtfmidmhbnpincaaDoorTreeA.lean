/- A tree, as one thing: its type in the program, and in the document's. -/
import Derived.Test.YtfmidmhbnpincaaDoorTreeP
import Derived.Test.YtfmidmhbnpincaaDoorCellA
namespace Go.Proofs.YtfmidmhbnpincaaDoor
open Go.RowKit
structure TrV where
  c : Nat
  P : List K32
  hc : c < 4294967296
  hP : P.length = 32
def TrV.V (t : TrV) : TreeV K32 := ⟨t.c, t.P⟩
theorem TrV.ext' {t u : TrV} (h : t.V = u.V) : t = u := by
  cases t; cases u
  simp only [TrV.V, TreeV.mk.injEq] at h
  obtain ⟨rfl, rfl⟩ := h
  rfl
def TrV.cells (t : TrV) : List Value := .int .u32 t.c :: cellsOf encK t.P
theorem TrV.len (t : TrV) : t.cells.length = 1025 := by
  unfold TrV.cells
  rw [List.length_cons, cellsOf_len encK_len, t.hP]
theorem TrV.one (t : TrV) : ∀ v ∈ t.cells, v.oneCell' = true := by
  intro v hv
  unfold TrV.cells at hv
  rcases List.mem_cons.1 hv with rfl | hv
  · rfl
  · exact cellsOf_all1 encK_one _ v hv
theorem tyTr : CellTy Tryd.prog 27 TrV.cells 1025 := ⟨by kernel_rfl, TrV.len, TrV.one, Tryd.isAgg27⟩
theorem tyRf : CellTy Tryd.prog 33 TrV.cells 1025 := ⟨by kernel_rfl, TrV.len, TrV.one, Tryd.isAgg33⟩
/-- an array of 33 keys -/
structure E33 where
  l : List K32
  h : l.length = 33
def E33.cells (x : E33) : List Value := cellsOf encK x.l
theorem E33.len (x : E33) : x.cells.length = 1056 := by unfold E33.cells; rw [cellsOf_len encK_len, x.h]
theorem E33.one (x : E33) : ∀ v ∈ x.cells, v.oneCell' = true := cellsOf_all1 encK_one _
theorem tyE : CellTy Tryd.prog 40 E33.cells 1056 := ⟨by kernel_rfl, E33.len, E33.one, Tryd.isAgg40⟩
/-- one key of a row of keys that stands in cells from off on -/
theorem rowC_key {w : World} {g off : Nat} {l : List K32} (h : RowC w g off (cellsOf encK l)) (i : Nat) (hi : i < l.length) : RowC w g (off + i * 32) (encK l[i]) := by
  intro j v hj
  have hj32 : j < 32 := by have := (List.getElem?_eq_some_iff.1 hj).1; rwa [encK_len] at this
  have h1 : (cellsOf encK l)[i * 32 + j]? = some v := by
    rw [cellsOf_at encK_len l i hi j hj32]; exact hj
  have := h (i * 32 + j) v h1
  rwa [show off + i * 32 + j = off + (i * 32 + j) by omega]
theorem cells_set' (a b : List K32) (x k : K32) : (cellsOf encK (a ++ x :: b)).take (a.length * 32) ++ encK k ++ (cellsOf encK (a ++ x :: b)).drop (a.length * 32 + 32) = cellsOf encK (a ++ k :: b) := by
  have hl : (cellsOf encK a).length = a.length * 32 := cellsOf_len encK_len _
  have hx : (encK x).length = 32 := encK_len _
  rw [cellsOf_append, cellsOf_append, show cellsOf encK (x :: b) = encK x ++ cellsOf encK b by simp [cellsOf], show cellsOf encK (k :: b) = encK k ++ cellsOf encK b by simp [cellsOf]]
  rw [List.take_append_of_le_length (by omega), List.take_of_length_le (by omega), List.drop_append, List.drop_of_length_le (by omega), List.nil_append, hl, show a.length * 32 + 32 - a.length * 32 = 32 by omega, List.drop_append, List.drop_of_length_le (by omega), List.nil_append, hx]
  simp
theorem cells_set (l : List K32) (i : Nat) (k : K32) (hi : i < l.length) : (cellsOf encK l).take (i * 32) ++ encK k ++ (cellsOf encK l).drop (i * 32 + 32) = cellsOf encK (l.set i k) := by
  have e1 : l.take i ++ l[i] :: l.drop (i + 1) = l := by rw [List.getElem_cons_drop, List.take_append_drop]
  have e2 : l.set i k = l.take i ++ k :: l.drop (i + 1) := by
    rw [List.set_eq_take_append_cons_drop, if_pos hi]
  have h := cells_set' (l.take i) (l.drop (i + 1)) l[i] k
  rw [e1, ← e2, List.length_take, Nat.min_eq_left (by omega)] at h
  exact h
section
variable {w : World} {g : Nat} {t : TrV}
theorem TrV.c0 (h : RowC w g 0 t.cells) : w.cell? ⟨g, 0, none⟩ = some (.int .u32 t.c) := h.head
theorem TrV.c1 (h : RowC w g 0 t.cells) (i : Nat) (hi : i < 32) : RowC w g (1 + i * 32) (encK (t.P[i]'(by rw [t.hP]; exact hi))) := rowC_key (off := 1) h.tail i (by rw [t.hP]; exact hi)
def TrV.setP (t : TrV) (i : Nat) (k : K32) : TrV := ⟨t.c, t.P.set i k, t.hc, by rw [List.length_set]; exact t.hP⟩
def TrV.setC (t : TrV) (c : Nat) (hc : c < 4294967296) : TrV := ⟨c, t.P, hc, t.hP⟩
theorem TrV.set_part (t : TrV) (i : Nat) (hi : i < 32) (k : K32) : t.cells.take (1 + i * 32) ++ encK k ++ t.cells.drop (1 + i * 32 + 32) = (t.setP i k).cells := by
  unfold TrV.cells TrV.setP
  simp only
  rw [← cells_set t.P i k (by rw [t.hP]; exact hi)]
  rw [show 1 + i * 32 = (i * 32) + 1 by omega, List.take_succ_cons, show i * 32 + 1 + 32 = (i * 32 + 32) + 1 by omega, List.drop_succ_cons]
  rfl
theorem TrV.set_count (t : TrV) (c : Nat) (hc : c < 4294967296) : t.cells.toArray.setIfInBounds 0 (.int .u32 c) = (t.setC c hc).cells.toArray := by
  simp [TrV.cells, TrV.setC]
end
def E33.setK (x : E33) (i : Nat) (k : K32) : E33 := ⟨x.l.set i k, by rw [List.length_set]; exact x.h⟩
theorem E33.set_key (x : E33) (i : Nat) (hi : i < 33) (k : K32) : x.cells.take (i * 32) ++ encK k ++ x.cells.drop (i * 32 + 32) = (x.setK i k).cells := cells_set x.l i k (by rw [x.h]; exact hi)
theorem E33.at (x : E33) {w : World} {g : Nat} (h : RowC w g 0 x.cells) (i : Nat) (hi : i < 33) : RowC w g (i * 32) (encK (x.l[i]'(by rw [x.h]; exact hi))) := by
  have := rowC_key h i (by rw [x.h]; exact hi)
  rwa [Nat.zero_add] at this
def zE : E33 := ⟨List.replicate 33 zeroKey, by simp⟩
def zT : TrV := ⟨0, List.replicate 32 zeroKey, by decide, by simp⟩
/-- the zero value of a great type, its cells under a name -/
theorem zeroV_of {P : Program} {t : TypeId} {z : Value} (h : (P.info? t).bind (·.zero) = some z) (w : World) : (zeroValue t).run P w = .ok z w := by
  cases hi : P.info? t with
  | none => simp [hi] at h
  | some i =>
    have hz : i.zero = some z := by simpa [hi] using h
    simp [zeroValue, typeInfo, hi, hz]
theorem zero_of {P : Program} {t : TypeId} {cs : Array Value} {n : Nat} (h : (P.info? t).bind (·.zero) = some (.agg cs)) (hs : cs.size = n + 1) : ∃ Z : Array Value, Z = cs ∧ (∀ w, (zeroValue t).run P w = .ok (.agg Z) w) ∧ Z.size = n + 1 ∧ Z ≠ #[] :=
  ⟨cs, rfl, zeroV_of h, hs, fun q => by rw [q] at hs; simp at hs⟩
theorem zeroE_ok : ((Tryd.prog.info? 40).bind (·.zero)) = some (.agg zE.cells.toArray) := by kernel_rfl
theorem zeroTr_ok : ((Tryd.prog.info? 27).bind (·.zero)) = some (.agg zT.cells.toArray) := by kernel_rfl
theorem zeroRf_ok : ((Tryd.prog.info? 33).bind (·.zero)) = some (.agg zT.cells.toArray) := by kernel_rfl
theorem zE_size : zE.cells.toArray.size = 1055 + 1 := by rw [List.size_toArray, zE.len]
theorem zT_size : zT.cells.toArray.size = 1024 + 1 := by rw [List.size_toArray, zT.len]
end Go.Proofs.YtfmidmhbnpincaaDoor
