/- Rows of the call's own whose spare is not known: a store of one element, clear, a cut. Over any program. -/
import Derived.Test.YtdojjddobepccaaRowK2
namespace Go.Proofs.Ytdojjddobepccaa
open Go.RowKit
section
variable {α : Type} {enc : α → List Value} {k : Nat} {P : Program} {t e : TypeId} (T : RowTy P t e enc k)
theorem own_blk {w : World} {base g n cap : Nat} {e : TypeId} {k : Nat} {xs : List Value} (h : w.ownsRow base e k (.slice (some ⟨g, 0, none⟩) n cap) n xs) :
    ∃ cur, Blk w g e cur ∧ base ≤ g ∧ n ≤ cap ∧ cap ≤ maxLen ∧ cur.size = cap * k ∧ cur.toList.take (n * k) = xs := by
  rcases h.2 with ⟨h1, _⟩ | ⟨g', cap', cur, h1, hb, hh, hn, hm, hs, ht⟩
  · cases h1
  · injection h1 with h1 h2 h3
    injection h1 with h1
    injection h1 with h1
    subst h1
    subst h3
    exact ⟨cur, hh, hb, hn, hm, hs, ht⟩
theorem own_row {w : World} {base g cap : Nat} {e : TypeId} {k : Nat} {l : List α} (hk : ∀ x, (enc x).length = k) (h : w.ownsRow base e k (.slice (some ⟨g, 0, none⟩) l.length cap) l.length (cellsOf enc l)) : RowC w g 0 (cellsOf enc l) ∧ g < w.heap.size := by
  obtain ⟨cur, hb, _, hn, _, hs, ht⟩ := own_blk h
  refine ⟨fun j u hj => ?_, hb.lt⟩
  have hj' : j < l.length * k := by
    have := (List.getElem?_eq_some_iff.1 hj).1; rwa [cellsOf_len hk] at this
  rw [Nat.zero_add, hb.cell j, ← Array.getElem?_toList, ← hj, ← ht, List.getElem?_take_of_lt hj']
include T
theorem RowTy.own_set {w : World} {base g cap : Nat} {l : List α} (h : w.ownsRow base e k (.slice (some ⟨g, 0, none⟩) l.length cap) l.length (cellsOf enc l)) (i : Nat) (hi : i < l.length) (v : α) :
    ∃ w', (storeVar e ⟨g, i * k, none⟩ (.agg (enc v).toArray)).run P w = .ok () w' ∧ Only [g] w w' ∧ w'.ownsRow base e k (.slice (some ⟨g, 0, none⟩) l.length cap) l.length (cellsOf enc (l.set i v)) := by
  obtain ⟨cur, hb, hbase, hn, hm, hs, ht⟩ := own_blk h
  have hfit : (i + 1) * k ≤ l.length * k := Nat.mul_le_mul_right k hi
  have hfit2 : l.length * k ≤ cap * k := Nat.mul_le_mul_right k hn
  have hik : i * k + k ≤ l.length * k := by rwa [Nat.add_mul, Nat.one_mul] at hfit
  have hst := run_storeCells_at P g (i * k) e (enc v) 0 cur w hb (by rw [T.len, Nat.add_zero, hs]; omega) (T.one v)
  rw [Nat.add_zero, T.len] at hst
  refine ⟨w.setRow g (cur.toList.take (i * k) ++ enc v ++ cur.toList.drop (i * k + k)).toArray, by simp [storeVar, T.sizeOf, Value.cells, T.len, hst], (only_setRow hb _).1, ?_⟩
  have hcl : cur.toList.length = cap * k := by rw [Array.length_toList, hs]
  refine ⟨by rw [cellsOf_len T.len, List.length_set], .inr ⟨g, cap, _, rfl, hbase, (only_setRow hb _).2, hn, hm, ?_, ?_⟩⟩
  · rw [List.size_toArray, List.length_append, List.length_append, List.length_take, List.length_drop, T.len, hcl]; omega
  · rw [← T.splice_set l i hi v, ← ht]
    show ((cur.toList.take (i * k) ++ enc v ++ cur.toList.drop (i * k + k)).toArray).toList.take (l.length * k) = _
    have e1 : (cur.toList.take (i * k) ++ enc v).length = i * k + k := by rw [List.length_append, List.length_take, T.len, hcl]; omega
    simp only []
    rw [List.take_append, List.take_of_length_le (by rw [e1]; exact hik), e1, List.take_take, Nat.min_eq_left (by omega), List.drop_take]
theorem RowTy.wpList_storeOwn {ops : Array Oper} {rest : List Oper} {o : Oper} {a : Act} {w : World} {Q : Exit → Act → World → Prop} (hgd : o.guard = none) (x y : Operand) (ho : o.op = .store e x y)
    (hd : o.dst = none) (g i : Nat) (v : α) (hx : a.eval x = .pointer (some ⟨g, i * k, none⟩)) (hy : a.eval y = .agg (enc v).toArray) (base cap n : Nat) (l : List α) (hl : l.length = n) (hown : w.ownsRow base e k (.slice (some ⟨g, 0, none⟩) n cap) n (cellsOf enc l)) (hi : i < l.length)
    (h : ∀ w', Only [g] w w' → w'.ownsRow base e k (.slice (some ⟨g, 0, none⟩) n cap) n (cellsOf enc (l.set i v)) → wpList P ops Q rest a w') : wpList P ops Q (o :: rest) a w :=
  wpList_plain hgd fun _ hK => by
    subst hl
    obtain ⟨w', hrun, h1, h2⟩ := T.own_set hown i hi v
    unfold Oper.wp execOp
    simp only [ho, hx, hy, Instr.storeAt, Instr.sureAddr, Sem.run_bind, Sem.run_pure, Result.andThen_ok, hrun]
    rw [Oper.upon_skip, hd]
    exact hK _ _ (h w' h1 h2)
theorem RowTy.run_clear {w : World} {base g n cap : Nat} {xs : List Value} (h : w.ownsRow base e k (.slice (some ⟨g, 0, none⟩) n cap) n xs) (z : Value) (hz : ∀ w, (zeroValue e).run P w = .ok z w) (hz1 : ∀ v ∈ z.cells, v.oneCell' = true) (hzs : z.cells.size = k) (ty : TypeId) (i m c : Nat) (A : Option Addr) (hA : A = some ⟨g, i * k, none⟩) (him : i + m ≤ n) :
    ∃ w', (Builtin.clear_ #[t] ty #[.slice A m c]).run P w = .ok (.tuple #[]) w' ∧ Only [g] w w' := by
  subst hA
  obtain ⟨cur, hb, hbase, hn, hm, hs, ht⟩ := own_blk h
  rcases m with _ | m
  · exact ⟨w, by simp [Builtin.clear_, run_underlying T.slice], Only.refl _ _⟩
  · have hzl : (Builtin.zeroCells z.cells (m + 1)).toList.length = (m + 1) * k := by simp [Builtin.zeroCells, hzs]
    have hz2 : ∀ v ∈ (Builtin.zeroCells z.cells (m + 1)).toList, v.oneCell' = true := by
      intro v hv
      simp only [Builtin.zeroCells, Array.toList_map, List.mem_map, Array.mem_toList_iff, Array.mem_range] at hv
      obtain ⟨q, hq, rfl⟩ := hv
      have hlt : q % z.cells.size < z.cells.size := Nat.mod_lt _ (by rw [hzs]; exact T.pos)
      rw [getElem!_pos z.cells _ hlt]
      exact hz1 _ (Array.getElem_mem hlt)
    have hfit : (i + (m + 1)) * k ≤ cap * k := Nat.mul_le_mul_right k (by omega)
    have hst := run_storeCells_at P g (i * k) e (Builtin.zeroCells z.cells (m + 1)).toList 0 cur w hb (by rw [hzl, Nat.add_zero, hs, ← Nat.add_mul]; exact hfit) hz2
    exact ⟨w.setRow g (cur.toList.take (i * k + 0) ++ (Builtin.zeroCells z.cells (m + 1)).toList ++ cur.toList.drop (i * k + 0 + (Builtin.zeroCells z.cells (m + 1)).toList.length)).toArray, by simp [Builtin.clear_, run_underlying T.slice, hz, hst], (only_setRow hb _).1⟩
theorem RowTy.wpList_clear {ops : Array Oper} {rest : List Oper} {o : Oper} {a : Act} {w : World} {Q : Exit → Act → World → Prop} (hgd : o.guard = none) (x : Operand)
    (ho : o.op = .call { callee := .builtin .clear, args := #[x], argTypes := #[t] }) (hd : o.dst = none) (base g n cap : Nat) (xs : List Value) (hown : w.ownsRow base e k (.slice (some ⟨g, 0, none⟩) n cap) n xs) (z : Value) (hz : ∀ w, (zeroValue e).run P w = .ok z w) (hz1 : ∀ v ∈ z.cells, v.oneCell' = true) (hzs : z.cells.size = k)
    (i m c : Nat) (A : Option Addr) (hx : a.eval x = .slice A m c) (hA : A = some ⟨g, i * k, none⟩) (him : i + m ≤ n)
    (h : ∀ w', Only [g] w w' → wpList P ops Q rest a w') : wpList P ops Q (o :: rest) a w := by
  refine wpList_plain hgd fun K hK => ?_
  obtain ⟨w', hrun, h1⟩ := T.run_clear hown z hz hz1 hzs o.type i m c A hA him
  unfold Oper.wp
  simp [execOp, ho, resolve, invoke, builtin, hx, hrun, Result.andThen]
  rw [Oper.upon_value, hd]
  exact hK _ _ (h w' h1)
end
theorem at_clearg {P : Program} {ops : Array Oper} {rest : List Oper} {a : Act} {w : World} {Q : Exit → Act → World → Prop} {t ty0 : TypeId} {pos : String} {after : Array Edge} {gd : Option (Nat × Bool)} (i : Nat)
    (h : wpList P ops Q ({ dst := none, op := .call { callee := .builtin .clear, args := #[.tmp i], argTypes := #[t] }, type := ty0, pos := pos, after := after, guard := gd } :: rest) a w) :
    wpList P ops Q ({ dst := none, op := .call { callee := .builtin .clear, args := #[.tmp i], argTypes := #[t] }, type := ty0, pos := pos, after := after, guard := gd } :: rest) a w := h
end Go.Proofs.Ytdojjddobepccaa
