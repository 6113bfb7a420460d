/- Rows of elements of k cells each (arrays, structs): read, load, store, copy, append, make, slice. Over any program. -/
import Derived.Test.YtgcopgnkfokphaaApp2
import Derived.Test.YtgcopgnkfokphaaHeld
import Derived.Laws.CopyOwn
import Derived.Shelf.SlicesQ.Load
import Derived.Great.BuildSlice
namespace Go.Proofs.Ytgcopgnkfokphaa
open Go.RowKit
def cellsOf {α : Type} (enc : α → List Value) (l : List α) : List Value := l.flatMap enc
/-- rows of type t have elements of type e, of k cells each, which 'enc' lists -/
structure RowTy (P : Program) (t e : TypeId) {α : Type} (enc : α → List Value) (k : Nat) : Prop where
  slice : P.underlying t = some (.slice e)
  size : (P.info? e).map (·.size) = some k
  len : ∀ x, (enc x).length = k
  one : ∀ x, ∀ v ∈ enc x, v.oneCell' = true
  agg : ∀ w, (isAgg e).run P w = .ok true w
  pos : 0 < k
section
variable {α : Type} {enc : α → List Value} {k : Nat}
theorem cellsOf_len (hk : ∀ x, (enc x).length = k) : ∀ l : List α, (cellsOf enc l).length = l.length * k
  | [] => by simp [cellsOf]
  | a :: l => by
    have ih := cellsOf_len hk l
    simp only [cellsOf, List.flatMap_cons, List.length_append, List.length_cons, hk] at ih ⊢
    rw [ih, Nat.add_mul]; omega
theorem cellsOf_append (l m : List α) : cellsOf enc (l ++ m) = cellsOf enc l ++ cellsOf enc m := by simp [cellsOf]
theorem cellsOf_cons (a : α) (m : List α) : cellsOf enc (a :: m) = enc a ++ cellsOf enc m := by simp [cellsOf]
theorem cellsOf_one (a : α) : cellsOf enc [a] = enc a := by simp [cellsOf]
theorem cellsOf_nil : cellsOf enc [] = [] := rfl
theorem cellsOf_drop (hk : ∀ x, (enc x).length = k) (l : List α) (i : Nat) : (cellsOf enc l).drop (i * k) = cellsOf enc (l.drop i) := by
  by_cases h : i ≤ l.length
  · conv => lhs; rw [← List.take_append_drop i l, cellsOf_append]
    rw [List.drop_append_of_le_length (by rw [cellsOf_len hk, List.length_take, Nat.min_eq_left h]; exact Nat.le_refl _)]
    rw [List.drop_of_length_le (by rw [cellsOf_len hk, List.length_take, Nat.min_eq_left h]; exact Nat.le_refl _)]; simp
  · rw [List.drop_of_length_le (by rw [cellsOf_len hk]; exact Nat.mul_le_mul_right k (by omega)), List.drop_of_length_le (by omega)]; rfl
theorem cellsOf_take (hk : ∀ x, (enc x).length = k) (l : List α) (i : Nat) : (cellsOf enc l).take (i * k) = cellsOf enc (l.take i) := by
  by_cases h : i ≤ l.length
  · conv => lhs; rw [← List.take_append_drop i l, cellsOf_append]
    rw [List.take_append_of_le_length (by rw [cellsOf_len hk, List.length_take, Nat.min_eq_left h]; exact Nat.le_refl _)]
    rw [List.take_of_length_le (by rw [cellsOf_len hk, List.length_take, Nat.min_eq_left h]; exact Nat.le_refl _)]
  · rw [List.take_of_length_le (by rw [cellsOf_len hk]; exact Nat.mul_le_mul_right k (by omega)), List.take_of_length_le (by omega)]
theorem cellsOf_at (hk : ∀ x, (enc x).length = k) (l : List α) (i : Nat) (hi : i < l.length) (j : Nat) (hj : j < k) : (cellsOf enc l)[i * k + j]? = (enc l[i])[j]? := by
  rw [← List.getElem?_drop, cellsOf_drop hk, ← List.getElem_cons_drop hi, cellsOf_cons, List.getElem?_append_left (by rw [hk]; exact hj)]
theorem cellsOf_all1 (h1 : ∀ x, ∀ v ∈ enc x, v.oneCell' = true) (l : List α) : ∀ v ∈ cellsOf enc l, v.oneCell' = true := by
  intro v hv
  simp only [cellsOf, List.mem_flatMap] at hv
  obtain ⟨x, _, hx⟩ := hv
  exact h1 x v hx
/-- the cells of block g from place o on are cs -/
def RowC (w : World) (g o : Nat) (cs : List Value) : Prop := ∀ j u, cs[j]? = some u → w.cell? ⟨g, o + j, none⟩ = some u
theorem RowC.below {w w' : World} {B g o : Nat} {cs : List Value} (h : RowC w g o cs) (hb : Below B w w') (hg : g < B) : RowC w' g o cs := fun j u hj => (hb.cell (p := ⟨g, o + j, none⟩) hg).trans (h j u hj)
theorem RowC.at {w : World} {g o : Nat} {l : List α} (hk : ∀ x, (enc x).length = k) (h : RowC w g o (cellsOf enc l)) {i : Nat} (hi : i < l.length) : RowC w g (o + i * k) (enc l[i]) := fun j u hj => by
  have hj' : j < k := by
    have := (List.getElem?_eq_some_iff.1 hj).1; rwa [hk] at this
  rw [Nat.add_assoc]; exact h _ u (by rw [cellsOf_at hk l i hi j hj']; exact hj)
theorem RowC.of_blk {w : World} {g : Nat} {t : TypeId} {cs : Array Value} (h : Blk w g t cs) : RowC w g 0 cs.toList := fun j u hj => by
  rw [Nat.zero_add, h.cell j]; simpa using hj
theorem RowC.drewN {w : World} {g o : Nat} {cs : List Value} (h : RowC w g o cs) (n : Nat) : RowC (w.drewN n) g o cs := h
theorem RowC.lt {w : World} {g o : Nat} {cs : List Value} (h : RowC w g o cs) (hp : 0 < cs.length) : g < w.heap.size := World.block_lt_of_cell? w ⟨g, o + 0, none⟩ (h 0 _ (List.getElem?_eq_getElem hp))
/-- a slice (A, l.length, c) that reads as l, its cells below block B -/
structure RowIn (enc : α → List Value) (k : Nat) (w : World) (B : Nat) (A : Option Addr) (c : Nat) (l : List α) : Prop where
  le : l.length ≤ c
  max : c ≤ maxLen
  cells : l ≠ [] → ∃ g o, A = some ⟨g, o, none⟩ ∧ g < B ∧ RowC w g o (cellsOf enc l)
section
variable {w w' : World} {B B' : Nat} {A : Option Addr} {c : Nat} {l : List α}
theorem RowIn.below (h : RowIn enc k w B A c l) (hb : Below B w w') : RowIn enc k w' B A c l :=
  ⟨h.le, h.max, fun hn => let ⟨g, o, e, hg, hc⟩ := h.cells hn; ⟨g, o, e, hg, hc.below hb hg⟩⟩
theorem RowIn.more (h : RowIn enc k w B A c l) (hB : B ≤ B') : RowIn enc k w B' A c l :=
  ⟨h.le, h.max, fun hn => let ⟨g, o, e, hg, hc⟩ := h.cells hn; ⟨g, o, e, Nat.lt_of_lt_of_le hg hB, hc⟩⟩
theorem RowIn.drewN (h : RowIn enc k w B A c l) (n : Nat) : RowIn enc k (w.drewN n) B A c l := ⟨h.le, h.max, h.cells⟩
theorem RowIn.at (h : RowIn enc k w B A c l) (hk : ∀ x, (enc x).length = k) {i : Nat} (hi : i < l.length) : ∃ g o, A = some ⟨g, o, none⟩ ∧ g < B ∧ RowC w g (o + i * k) (enc l[i]) := by
  obtain ⟨g, o, e, hg, hc⟩ := h.cells (by intro e; subst e; simp at hi)
  exact ⟨g, o, e, hg, hc.at hk hi⟩
theorem RowIn.reads (h : RowIn enc k w B A c l) (hk : ∀ x, (enc x).length = k) : Reads w B k A l.length (cellsOf enc l) :=
  ⟨cellsOf_len hk l, fun hn => by
    obtain ⟨g, o, e, hg, hc⟩ := h.cells (by intro e; subst e; simp at hn)
    refine ⟨_, e, hg, fun j u hj => ?_⟩
    have hadd : (⟨g, o, none⟩ : Addr).add j = ⟨g, o + j, none⟩ := by unfold Addr.add; split <;> simp_all
    rw [hadd]; exact hc j u hj⟩
theorem RowIn.nil {c : Nat} (hc : c ≤ maxLen) : RowIn enc k w B A c [] := ⟨Nat.zero_le _, hc, fun h => absurd rfl h⟩
theorem RowIn.of_own {base : Nat} {e : TypeId} {v : Value} (hk : ∀ x, (enc x).length = k) (h : w.ownsRow base e k v l.length (cellsOf enc l)) : ∃ A c, v = .slice A l.length c ∧ RowIn enc k w w.heap.size A c l := by
  rcases h.2 with ⟨rfl, hn⟩ | ⟨g, cap, cur, rfl, hb, hh, hn, hm, hs, ht⟩
  · have : l = [] := List.eq_nil_of_length_eq_zero hn
    subst this
    exact ⟨none, 0, rfl, RowIn.nil (Nat.zero_le _)⟩
  · refine ⟨_, cap, rfl, hn, hm, fun _ => ⟨g, 0, rfl, ?_, fun j u hj => ?_⟩⟩
    · rcases Nat.lt_or_ge g w.heap.size with hlt | hge
      · exact hlt
      · rw [Array.getElem?_eq_none hge] at hh; cases hh
    · have hj' : j < l.length * k := by
        have := (List.getElem?_eq_some_iff.1 hj).1; rwa [cellsOf_len hk] at this
      rw [Nat.zero_add, cell_of_row w g j cur e (0, 0) hh, ← Array.getElem?_toList, ← hj, ← ht, List.getElem?_take_of_lt hj']
theorem RowIn.take (h : RowIn enc k w B A c l) (hk : ∀ x, (enc x).length = k) (i : Nat) : RowIn enc k w B A c (l.take i) :=
  ⟨by have := h.le; rw [List.length_take]; omega, h.max, fun hn => by
    obtain ⟨g, o, e, hg, hc⟩ := h.cells (by intro e; subst e; simp at hn)
    refine ⟨g, o, e, hg, fun j u hj => hc j u ?_⟩
    rw [← cellsOf_take hk] at hj
    have hj' := (List.getElem?_eq_some_iff.1 hj).1
    rw [List.length_take] at hj'
    rwa [List.getElem?_take_of_lt (by omega)] at hj⟩
/-- the address behind a cut from i on -/
def cutA (k c i : Nat) (A : Option Addr) : Option Addr := if c = i then A else A.map (·.add (i * k))
theorem RowIn.drop (h : RowIn enc k w B A c l) (hk : ∀ x, (enc x).length = k) (i : Nat) (hi : i ≤ l.length) : RowIn enc k w B (cutA k c i A) (c - i) (l.drop i) :=
  ⟨by have := h.le; rw [List.length_drop]; omega, by have := h.max; omega, fun hn => by
    have hlt : i < l.length := by
      rcases Nat.lt_or_ge i l.length with h1 | h1
      · exact h1
      · rw [List.drop_of_length_le h1] at hn; exact absurd rfl hn
    obtain ⟨g, o, rfl, hg, hc⟩ := h.cells (by intro e; subst e; simp at hlt)
    have hne : c ≠ i := by have := h.le; omega
    have hadd : (⟨g, o, none⟩ : Addr).add (i * k) = ⟨g, o + i * k, none⟩ := by unfold Addr.add; split <;> simp_all
    refine ⟨g, o + i * k, by unfold cutA; rw [if_neg hne]; simp [hadd], hg, fun j u hj => ?_⟩
    rw [Nat.add_assoc]
    refine hc _ u ?_
    rw [← cellsOf_drop hk, List.getElem?_drop] at hj; exact hj⟩
end
section
variable {P : Program} {t e : TypeId} (T : RowTy P t e enc k)
include T
theorem RowTy.sizeOf (w : World) : (Go.sizeOf e).run P w = .ok k w := by
  have h := T.size
  cases hq : P.info? e with
  | none => simp [hq] at h
  | some i => have hz : i.size = k := by simpa [hq] using h
              simp [Go.sizeOf, typeInfo, hq, hz]
theorem RowTy.load (w : World) (g o : Nat) (x : α) (h : RowC w g o (enc x)) : (loadVar e ⟨g, o, none⟩).run P w = .ok (.agg (enc x).toArray) w := by
  have hl := run_loadCellsFrom_list P w ⟨g, o, none⟩ (enc x) k (T.len x) (fun j v hv => by
    have hadd : (⟨g, o, none⟩ : Addr).add j = ⟨g, o + j, none⟩ := by unfold Addr.add; split <;> simp_all
    rw [hadd]; exact h j v hv)
  simp [loadVar, T.agg, T.sizeOf, loadCells, hl]
theorem RowTy.wpList_load {ops : Array Oper} {rest : List Oper} {o : Oper} {a : Act} {w : World} {Q : Exit → Act → World → Prop} (hw : Region.wanted o (yielded ops a.tmps) = true) (x : Operand) (ho : o.op = .load e x)
    (g off : Nat) (hx : a.eval x = .pointer (some ⟨g, off, none⟩)) (y : α) (hg : RowC w g off (enc y))
    (h : wpList P ops Q rest (a.put o.dst (.agg (enc y).toArray)) w) : wpList P ops Q (o :: rest) a w :=
  wpList_step fun _ hK => by
    rw [if_pos hw]
    unfold Oper.wp execOp
    simp only [ho, hx, Instr.loadAt, Instr.sureAddr, Sem.run_bind, Sem.run_pure, Result.andThen_ok, T.load w g off y hg]
    exact hK _ _ h
theorem RowTy.wpQuiet_load {ops : Array Oper} {C : World → Prop} {Q : Act → Prop} {a : Act} {rest : List Oper} {o : Oper} (hw : Region.wanted o (yielded ops a.tmps) = true) (x : Operand) (ho : o.op = .load e x)
    (g off : Nat) (hx : a.eval x = .pointer (some ⟨g, off, none⟩)) (y : α) (hg : ∀ w, C w → RowC w g off (enc y))
    (h : wpQuiet P ops C Q rest (a.put o.dst (.agg (enc y).toArray))) : wpQuiet P ops C Q (o :: rest) a :=
  wpQuiet_step fun K hK => by
    rw [if_pos hw]
    refine ⟨.agg (enc y).toArray, fun w hC => ?_, hK _ h⟩
    unfold Oper.quietAt execOp
    simp only [ho, hx, Instr.loadAt, Instr.sureAddr, Sem.run_bind, Sem.run_pure, Result.andThen_ok, T.load w g off y (hg w hC)]
    exact ⟨rfl, rfl⟩
theorem RowTy.splice_set (l : List α) (i : Nat) (hi : i < l.length) (x : α) : (cellsOf enc l).take (i * k) ++ enc x ++ (cellsOf enc l).drop (i * k + k) = cellsOf enc (l.set i x) := by
  rw [show i * k + k = (i + 1) * k by rw [Nat.add_mul, Nat.one_mul], cellsOf_take T.len, cellsOf_drop T.len, List.set_eq_take_append_cons_drop, if_pos hi, cellsOf_append, cellsOf_cons, List.append_assoc]
theorem RowTy.splice_copy (l m : List α) (i : Nat) : (cellsOf enc l).take (i * k) ++ cellsOf enc m ++ (cellsOf enc l).drop (i * k + m.length * k) = cellsOf enc (l.take i ++ m ++ l.drop (i + m.length)) := by
  rw [← Nat.add_mul, cellsOf_take T.len, cellsOf_drop T.len, cellsOf_append, cellsOf_append]
/-- a store of one element into a block of such elements -/
theorem RowTy.wpList_store {ops : Array Oper} {rest : List Oper} {o : Oper} {a : Act} {w : World} {Q : Exit → Act → World → Prop} (hgd : o.guard = none) (x y : Operand) (ho : o.op = .store e x y)
    (hd : o.dst = none) (g i : Nat) (v : α) (hx : a.eval x = .pointer (some ⟨g, i * k, none⟩)) (hy : a.eval y = .agg (enc v).toArray) (te : TypeId) (l : List α) (hg : Blk w g te (cellsOf enc l).toArray) (hi : i < l.length)
    (h : ∀ w', Only [g] w w' → Blk w' g te (cellsOf enc (l.set i v)).toArray → wpList P ops Q rest a w') : wpList P ops Q (o :: rest) a w :=
  wpList_plain hgd fun _ hK => by
    have hfit : (i + 1) * k ≤ l.length * k := Nat.mul_le_mul_right k hi
    have hst := run_storeCells_at P g (i * k) te (enc v) 0 _ w hg (by rw [T.len, Nat.add_zero, List.size_toArray, cellsOf_len T.len]; rw [Nat.add_mul, Nat.one_mul] at hfit; exact hfit) (T.one v)
    rw [Nat.add_zero, T.len] at hst
    have hs : (cellsOf enc l).toArray.toList = cellsOf enc l := by simp
    rw [hs, T.splice_set l i hi v] at hst
    have hrun : (storeVar e ⟨g, i * k, none⟩ (.agg (enc v).toArray)).run P w = .ok () (w.setRow g (cellsOf enc (l.set i v)).toArray) := by
      simp [storeVar, T.sizeOf, Value.cells, T.len, hst]
    unfold Oper.wp execOp
    simp only [ho, hx, hy, Instr.storeAt, Instr.sureAddr, Sem.run_bind, Sem.run_pure, Result.andThen_ok, hrun]
    rw [Oper.upon_skip, hd]
    exact hK _ _ (h _ (only_setRow hg _).1 (only_setRow hg _).2)
theorem RowTy.run_copy (w : World) (sT ty : TypeId) (dp : Option Addr) (dLen dCap : Nat) (B : Nat) (A : Option Addr) (sCap : Nat) (m : List α) (hm : RowIn enc k w B A sCap m) (g i : Nat) (hd : m ≠ [] → dLen ≠ 0 → dp = some ⟨g, i * k, none⟩)
    (te : TypeId) (l : List α) (hg : Blk w g te (cellsOf enc l).toArray) (hi : i + min m.length dLen ≤ l.length) :
    ∃ w' n, (Builtin.copy_ #[t, sT] ty #[.slice dp dLen dCap, .slice A m.length sCap]).run P w = .ok (goInt n) w' ∧ Only [g] w w' ∧ Blk w' g te (cellsOf enc (l.take i ++ m.take dLen ++ l.drop (i + min m.length dLen))).toArray := by
  rcases Nat.eq_zero_or_pos (min m.length dLen) with h0 | h0
  · have e : m.take dLen = [] := by
      rcases Nat.min_eq_zero_iff.1 h0 with h | h
      · rw [List.eq_nil_of_length_eq_zero h]; simp
      · rw [h]; simp
    refine ⟨w, 0, ?_, Only.refl _ _, ?_⟩
    · have hl : ∀ a : Addr, (loadCells a 0).run P w = .ok #[] w := fun a => rfl
      have hmin : Nat.min m.length dLen = 0 := h0
      cases A <;> cases dp <;> simp [Builtin.copy_, run_underlying T.slice, Builtin.lenOf, Builtin.firstCells, T.sizeOf, hmin, hl, storeCells]
    · rw [e, h0, Nat.add_zero, List.append_nil, List.take_append_drop]; exact hg
  · have hm0 : m ≠ [] := by intro e; subst e; simp at h0
    have hd0 : dLen ≠ 0 := by omega
    obtain rfl := hd hm0 hd0
    obtain ⟨g', o', rfl, _, hc⟩ := hm.cells hm0
    have hlen : (m.take dLen).length = min m.length dLen := by rw [List.length_take, Nat.min_comm]
    have hl := run_loadCells_list (P := P) w ⟨g', o', none⟩ (cellsOf enc (m.take dLen)) (fun j v hv => by
      have hadd : (⟨g', o', none⟩ : Addr).add j = ⟨g', o' + j, none⟩ := by unfold Addr.add; split <;> simp_all
      rw [hadd]
      refine hc j v ?_
      rw [← cellsOf_take T.len] at hv
      have hj' := (List.getElem?_eq_some_iff.1 hv).1
      rw [List.length_take] at hj'
      rwa [List.getElem?_take_of_lt (by omega)] at hv)
    rw [cellsOf_len T.len, hlen] at hl
    have hfit : (i + min m.length dLen) * k ≤ l.length * k := Nat.mul_le_mul_right k hi
    have hst := run_storeCells_at P g (i * k) te (cellsOf enc (m.take dLen)) 0 _ w hg (by rw [cellsOf_len T.len, hlen, Nat.add_zero, List.size_toArray, cellsOf_len T.len, ← Nat.add_mul]; exact hfit) (cellsOf_all1 T.one _)
    have hs : (cellsOf enc l).toArray.toList = cellsOf enc l := by simp
    rw [Nat.add_zero, cellsOf_len T.len, hs, T.splice_copy l (m.take dLen) i, hlen] at hst
    refine ⟨_, ((min m.length dLen : Nat) : Int), ?_, (only_setRow hg _).1, (only_setRow hg _).2⟩
    simp only [Builtin.copy_, List.getElem?_toArray, List.getElem?_cons_zero, List.getElem?_cons_succ, Sem.run_bind, run_underlying T.slice, Result.andThen_ok, Builtin.lenOf, Sem.run_pure, T.sizeOf, Builtin.firstCells]
    have hmin : Nat.min m.length dLen = min m.length dLen := rfl
    rw [hmin, hl]
    simp only [Result.andThen_ok, hst]
/-- a copy of elements into a block of such elements -/
theorem RowTy.wpList_copy {ops : Array Oper} {rest : List Oper} {o : Oper} {a : Act} {w : World} {Q : Exit → Act → World → Prop} (hgd : o.guard = none) (d s : Operand) (sT : TypeId)
    (ho : o.op = .call { callee := .builtin .copy, args := #[d, s], argTypes := #[t, sT] })
    (dp : Option Addr) (dLen dCap : Nat) (B : Nat) (A : Option Addr) (sCap : Nat) (m : List α) (hdv : a.eval d = .slice dp dLen dCap) (hsv : a.eval s = .slice A m.length sCap) (hm : RowIn enc k w B A sCap m) (g i : Nat) (hd : m ≠ [] → dLen ≠ 0 → dp = some ⟨g, i * k, none⟩)
    (te : TypeId) (l : List α) (hg : Blk w g te (cellsOf enc l).toArray) (hi : i + min m.length dLen ≤ l.length)
    (h : ∀ w' n, Only [g] w w' → Blk w' g te (cellsOf enc (l.take i ++ m.take dLen ++ l.drop (i + min m.length dLen))).toArray → wpList P ops Q rest (a.put o.dst (goInt n)) w') : wpList P ops Q (o :: rest) a w := by
  refine wpList_plain hgd fun K hK => ?_
  obtain ⟨w', n, hrun, ho', hb'⟩ := T.run_copy w sT o.type dp dLen dCap B A sCap m hm g i hd te l hg hi
  unfold Oper.wp
  simp [execOp, ho, resolve, invoke, builtin, hdv, hsv, hrun, Result.andThen]
  exact hK _ _ (h w' n ho' hb')
theorem RowTy.step_copy {ops : Array Oper} {o : Oper} {a : Act} {w : World} {K : Act → World → Prop} {Q : Exit → Act → World → Prop} {E : Prop} (hgd : o.guard = none) (d s : Operand) (sT : TypeId)
    (ho : o.op = .call { callee := .builtin .copy, args := #[d, s], argTypes := #[t, sT] })
    (dp : Option Addr) (dLen dCap : Nat) (B : Nat) (A : Option Addr) (sCap : Nat) (m : List α) (hdv : a.eval d = .slice dp dLen dCap) (hsv : a.eval s = .slice A m.length sCap) (hm : RowIn enc k w B A sCap m) (g i : Nat) (hd : m ≠ [] → dLen ≠ 0 → dp = some ⟨g, i * k, none⟩)
    (te : TypeId) (l : List α) (hg : Blk w g te (cellsOf enc l).toArray) (hi : i + min m.length dLen ≤ l.length)
    (h : ∀ w' n, Only [g] w w' → Blk w' g te (cellsOf enc (l.take i ++ m.take dLen ++ l.drop (i + min m.length dLen))).toArray → K (a.put o.dst (goInt n)) w') :
    if Region.wanted o (yielded ops a.tmps) = true then Oper.wp P o a w K Q else E := by
  have hw : Region.wanted o (yielded ops a.tmps) = true := by simp [Region.wanted, hgd]
  rw [if_pos hw]
  obtain ⟨w', n, hrun, ho', hb'⟩ := T.run_copy w sT o.type dp dLen dCap B A sCap m hm g i hd te l hg hi
  unfold Oper.wp
  simp [execOp, ho, resolve, invoke, builtin, hdv, hsv, hrun, Result.andThen]
  exact h w' n ho' hb'
theorem RowTy.fill (l : List α) (cells : Array Value) (hs : cells.size = l.length * k) :
    Instr.fill (fun i => some (i * k, k)) cells (((l.map fun x => Value.agg (enc x).toArray).zipIdx 0).map fun x => (x.2, x.1)) = some (cellsOf enc l).toArray := by
  obtain ⟨r, hr, hz, hg⟩ := Great.fill_dense T.pos (l.map fun x => Value.agg (enc x).toArray) 0 cells (fun v hv => by
    obtain ⟨x, _, rfl⟩ := List.mem_map.1 hv
    simp [Value.cells, T.len]) (by simp [hs])
  rw [hr]
  congr 1
  apply Array.ext_getElem?
  intro j
  rw [hg j]
  by_cases hj : j < l.length * k
  · have hq : j / k < l.length := (Nat.div_lt_iff_lt_mul T.pos).2 hj
    rw [if_pos (by simpa using hj), Nat.sub_zero, List.getElem?_map, List.getElem?_eq_getElem hq]
    have e : j = j / k * k + j % k := (Nat.div_add_mod' j k).symm
    have h2 : (cellsOf enc l).toArray[j]? = (enc l[j / k])[j % k]? := by
      rw [List.getElem?_toArray]
      conv => lhs; rw [e]
      exact cellsOf_at T.len l (j / k) hq (j % k) (Nat.mod_lt _ T.pos)
    rw [h2]
    simp [Value.cells]
  · rw [if_neg (by simpa using hj), Array.getElem?_eq_none (by omega), Array.getElem?_eq_none (by rw [List.size_toArray, cellsOf_len T.len]; omega)]
/-- a literal of elements -/
theorem RowTy.wpList_build {ops : Array Oper} {rest : List Oper} {o : Oper} {a : Act} {w : World} {Q : Exit → Act → World → Prop} (hgd : o.guard = none) (hz : ((P.info? e).bind (·.zero)).isSome = true)
    (len : Nat) (parts : Array (Nat × Operand)) (ho : o.op = .buildSlice t len parts) (l : List α) (hl : l.length = len) (h0 : 0 < len) (hsmall : len * k ≤ 2 ^ 24)
    (hp : (parts.map fun (i, x) => (i, a.eval x)).toList = ((l.map fun x => Value.agg (enc x).toArray).zipIdx 0).map fun x => (x.2, x.1))
    (h : wpList P ops Q rest (a.put o.dst (.slice (some ⟨w.heap.size, 0, none⟩) len len)) (w.alloc (.cells (cellsOf enc l).toArray e))) : wpList P ops Q (o :: rest) a w := by
  have hs := T.size
  cases hie : P.info? e with
  | none => simp [hie] at hs
  | some ie =>
    simp only [hie, Option.map_some, Option.some.injEq, Option.bind_some] at hs hz
    obtain ⟨z, hzz⟩ := Option.isSome_iff_exists.1 hz
    refine wpList_buildSlice hgd t e len parts ho _ ie z T.slice hie hzz (by rw [hs]; omega) (by rw [hs]; have := Nat.mul_pos h0 T.pos; omega) ?_ h
    rw [hp, hs]
    exact T.fill l _ (by simp [hl])
theorem RowTy.wpList_append1 {ops : Array Oper} {rest : List Oper} {o : Oper} {a : Act} {w : World} {Q : Exit → Act → World → Prop} (hgd : o.guard = none) (hz : ((P.info? e).bind (·.zero)).map (·.cells.size) = some k) (bytes : Nat) (hb : (P.info? e).map (·.bytes) = some bytes) (hby : bytes ≤ 100000) (s x : Operand)
    (ho : o.op = .call { callee := .builtin .append, args := #[s, x], argTypes := #[t, t] })
    (base : Nat) (v : Value) (l : List α) (hs : a.eval s = v) (hown : w.ownsRow base e k v l.length (cellsOf enc l))
    (g c : Nat) (y : α) (hx : a.eval x = .slice (some ⟨g, 0, none⟩) 1 c) (hg : Blk w g e (cellsOf enc [y]).toArray) (hn : l.length ≤ 1000000) (hbase : base ≤ w.heap.size)
    (h : ∀ v' w', w'.ownsRow base e k v' (l ++ [y]).length (cellsOf enc (l ++ [y])) → w.grownBy w' v.ownBlock → wpList P ops Q rest (a.put o.dst v') w') : wpList P ops Q (o :: rest) a w := by
  have hsz := T.size
  cases hie : P.info? e with
  | none => simp [hie] at hsz
  | some ie =>
    simp only [hie, Option.map_some, Option.some.injEq, Option.bind_some, Option.map_eq_some_iff] at hsz hz hb
    obtain ⟨z, hz1, hz2⟩ := hz
    refine wpList_append_any w hgd s x t ho base e ie z k bytes T.slice hie hz1 hsz hb hz2 T.pos v l.length (cellsOf enc l) hs hown (g + 1) (some ⟨g, 0, none⟩) 1 c (cellsOf enc [y]) hx ?_ (cellsOf_all1 T.one _) ?_ ?_ hbase ?_
    · refine ⟨by rw [cellsOf_len T.len]; rfl, fun _ => ⟨_, rfl, by simp, fun j u hj => ?_⟩⟩
      have hadd : (⟨g, 0, none⟩ : Addr).add j = ⟨g, 0 + j, none⟩ := by unfold Addr.add; split <;> simp_all
      rw [hadd]
      exact RowC.of_blk hg j u (by simpa using hj)
    · unfold maxLen; omega
    · have : (l.length + 1) * bytes ≤ 1000001 * 100000 := Nat.mul_le_mul (by omega) hby
      omega
    · intro v' w' h2 h3 _
      exact h v' w' (by rw [List.length_append, cellsOf_append]; exact h2) h3
theorem RowTy.made (w : World) (z : α) (zv : Value) (bytes : Nat) (hz : (P.info? e).map (fun i => (i.zero, i.bytes)) = some (some zv, bytes)) (hzc : zv.cells = (enc z).toArray) (hb : bytes ≤ 100000) (k1 k2 : IntKind) (n : Nat) (hn : n ≤ 1000000) :
    (Instr.makeSlice t (.int k1 (n : Int)) (.int k2 (n : Int))).run P w = .ok (.slice (some ⟨w.heap.size, 0, none⟩) n n) (w.alloc (.cells (cellsOf enc (List.replicate n z)).toArray e)) := by
  have hsz := T.size
  cases hie : P.info? e with
  | none => simp [hie] at hsz
  | some ie =>
    simp only [hie, Option.map_some, Option.some.injEq, Prod.mk.injEq] at hsz hz
    have hbn : ie.bytes * n ≤ 100000 * 1000000 := Nat.mul_le_mul (by omega) hn
    rw [run_make_rowN (P := P) t e ie zv T.slice hie hz.1 k1 k2 n n (Nat.le_refl _) (by omega) (by omega) w, hzc, hsz]
    congr 3
    apply Array.ext_getElem?
    intro j
    by_cases hj : j < n * k
    · have hq : j / k < n := (Nat.div_lt_iff_lt_mul T.pos).2 hj
      have e : j = j / k * k + j % k := (Nat.div_add_mod' j k).symm
      have hm := Nat.mod_lt j T.pos
      have h2 : (cellsOf enc (List.replicate n z)).toArray[j]? = (enc z)[j % k]? := by
        rw [List.getElem?_toArray]
        conv => lhs; rw [e]
        rw [cellsOf_at T.len _ (j / k) (by simpa using hq) (j % k) hm, List.getElem_replicate]
      rw [h2]
      have hlz : j % k < (enc z).length := by rw [T.len]; exact hm
      rw [List.getElem?_eq_getElem hlz]
      simp [madeCells, hj, T.len, List.getElem?_eq_getElem hlz]
    · rw [Array.getElem?_eq_none (by rw [size_madeCells]; omega), Array.getElem?_eq_none (by rw [List.size_toArray, cellsOf_len T.len, List.length_replicate]; omega)]
theorem RowTy.slice_to (w : World) (A : Option Addr) (n c i : Nat) (hi : i ≤ c) : (Instr.slice t (.slice A n c) none (some (.int .i64 (i : Int))) none).run P w = .ok (.slice A i c) w := by
  have he : P.elem t = e := by simp [Program.elem, T.slice]
  rw [run_slice_h w t A n c (by rw [he]; exact T.slice) .i64 i (by omega) (by omega), he, T.sizeOf]
  simp only [Result.andThen_ok, sliced, Int.toNat_natCast, Nat.zero_mul, Nat.sub_zero]
  congr 2
  split
  · rfl
  · cases A <;> simp [Addr.add]
theorem RowTy.slice_from (w : World) (A : Option Addr) (n c i : Nat) (hi : i ≤ n) : (Instr.slice t (.slice A n c) (some (.int .i64 (i : Int))) none none).run P w = .ok (.slice (cutA k c i A) (n - i) (c - i)) w := by
  have he : P.elem t = e := by simp [Program.elem, T.slice]
  rw [run_slice_l w t A n c (by rw [he]; exact T.slice) .i64 i (by omega) (by omega), he, T.sizeOf]
  simp only [Result.andThen_ok, sliced, Int.toNat_natCast, cutA]
end
end
end Go.Proofs.Ytgcopgnkfokphaa
