/- Types whose values have k cells: load, store; keys as such; results that lie in cells. -/
import Derived.Test.YtimhophelecmjaaGenA
namespace Go.Proofs.Ytimhophelecmjaa
open Go.RowKit
def zeroKey : K32 := ⟨List.replicate 32 0, by simp⟩
theorem RowTy.arr {α : Type} {enc : α → List Value} {k : Nat} {P : Program} {t e : TypeId} (T : RowTy P t e enc k) (x : α) : (enc x).toArray.size = k := by rw [List.size_toArray, T.len]
theorem RowTy.arr1 {α : Type} {enc : α → List Value} {k : Nat} {P : Program} {t e : TypeId} (T : RowTy P t e enc k) (x : α) : (enc x).toArray.all (·.oneCell') = true := by rw [List.all_toArray, List.all_eq_true]; exact T.one x
theorem RowTy.arrS {α : Type} {enc : α → List Value} {k : Nat} {P : Program} {t e : TypeId} (T : RowTy P t e enc k) (x : α) : (P.info? e).map (·.size) = some (enc x).toArray.size := by rw [T.arr, T.size]
/-- values of type e have k cells, which 'enc' lists -/
structure CellTy (P : Program) (e : TypeId) {α : Type} (enc : α → List Value) (k : Nat) : Prop where
  size : (P.info? e).map (·.size) = some k
  len : ∀ x, (enc x).length = k
  one : ∀ x, ∀ v ∈ enc x, v.oneCell' = true
  agg : ∀ w, (isAgg e).run P w = .ok true w
section
variable {α : Type} {enc : α → List Value} {k : Nat} {P : Program} {e : TypeId} (T : CellTy P e enc k)
include T
theorem CellTy.sizeOf (w : World) : (Go.sizeOf e).run P w = .ok k w := by
  have h := T.size
  cases hq : P.info? e with
  | none => simp [hq] at h
  | some i => have hz : i.size = k := by simpa [hq] using h
              simp [Go.sizeOf, typeInfo, hq, hz]
theorem CellTy.load (w : World) (g o : Nat) (x : α) (h : RowC w g o (enc x)) : (loadVar e ⟨g, o, none⟩).run P w = .ok (.agg (enc x).toArray) w := by
  have hl := run_loadCellsFrom_list P w ⟨g, o, none⟩ (enc x) k (T.len x) (fun j v hv => by
    have hadd : (⟨g, o, none⟩ : Addr).add j = ⟨g, o + j, none⟩ := by unfold Addr.add; split <;> simp_all
    rw [hadd]; exact h j v hv)
  simp [loadVar, T.agg, T.sizeOf, loadCells, hl]
theorem CellTy.wpList_load {ops : Array Oper} {rest : List Oper} {o : Oper} {a : Act} {w : World} {Q : Exit → Act → World → Prop} (hw : Region.wanted o (yielded ops a.tmps) = true) (x : Operand) (ho : o.op = .load e x)
    (g off : Nat) (hx : a.eval x = .pointer (some ⟨g, off, none⟩)) (y : α) (hg : RowC w g off (enc y))
    (h : wpList P ops Q rest (a.put o.dst (.agg (enc y).toArray)) w) : wpList P ops Q (o :: rest) a w :=
  wpList_step fun _ hK => by
    rw [if_pos hw]
    unfold Oper.wp execOp
    simp only [ho, hx, Instr.loadAt, Instr.sureAddr, Sem.run_bind, Sem.run_pure, Result.andThen_ok, T.load w g off y hg]
    exact hK _ _ h
theorem CellTy.wpQuiet_load {ops : Array Oper} {C : World → Prop} {Q : Act → Prop} {a : Act} {rest : List Oper} {o : Oper} (hw : Region.wanted o (yielded ops a.tmps) = true) (x : Operand) (ho : o.op = .load e x)
    (g off : Nat) (hx : a.eval x = .pointer (some ⟨g, off, none⟩)) (y : α) (hg : ∀ w, C w → RowC w g off (enc y))
    (h : wpQuiet P ops C Q rest (a.put o.dst (.agg (enc y).toArray))) : wpQuiet P ops C Q (o :: rest) a :=
  wpQuiet_step fun K hK => by
    rw [if_pos hw]
    refine ⟨.agg (enc y).toArray, fun w hC => ?_, hK _ h⟩
    unfold Oper.quietAt execOp
    simp only [ho, hx, Instr.loadAt, Instr.sureAddr, Sem.run_bind, Sem.run_pure, Result.andThen_ok, T.load w g off y (hg w hC)]
    exact ⟨rfl, rfl⟩
theorem CellTy.arr (x : α) : (enc x).toArray.size = k := by rw [List.size_toArray, T.len]
/-- a store into a whole block -/
theorem CellTy.wpList_store {ops : Array Oper} {rest : List Oper} {o : Oper} {a : Act} {w : World} {Q : Exit → Act → World → Prop} (hgd : o.guard = none) (x y : Operand) (ho : o.op = .store e x y)
    (hd : o.dst = none) (g : Nat) (v : α) (hx : a.eval x = .pointer (some ⟨g, 0, none⟩)) (hy : a.eval y = .agg (enc v).toArray) (t : TypeId) (old : Array Value) (hg : Blk w g t old) (hold : old.size = k)
    (h : ∀ w', Only [g] w w' → Blk w' g t (enc v).toArray → wpList P ops Q rest a w') : wpList P ops Q (o :: rest) a w :=
  wpList_store_arr hgd e x y ho hd g _ hx hy t old hg (by rw [T.arr, T.size]) (by rw [T.arr, hold]) (by rw [List.all_toArray, List.all_eq_true]; exact T.one v) h
end
section
variable {P : Program} {e : TypeId} {α : Type} {enc : α → List Value} {k : Nat} (T : CellTy P e enc k)
include T
/-- a store of a value of k cells into the midst of a block -/
theorem CellTy.wpList_storeAt {ops : Array Oper} {rest : List Oper} {o : Oper} {a : Act} {w : World} {Q : Exit → Act → World → Prop} (hgd : o.guard = none) (x y : Operand) (ho : o.op = .store e x y)
    (hd : o.dst = none) (g off : Nat) (v : α) (hx : a.eval x = .pointer (some ⟨g, off, none⟩)) (hy : a.eval y = .agg (enc v).toArray) (te : TypeId) (cs : List Value) (hg : Blk w g te cs.toArray) (hfit : off + k ≤ cs.length)
    (h : ∀ w', Only [g] w w' → Blk w' g te (cs.take off ++ enc v ++ cs.drop (off + k)).toArray → wpList P ops Q rest a w') : wpList P ops Q (o :: rest) a w :=
  wpList_plain hgd fun _ hK => by
    have hst := run_storeCells_at P g off te (enc v) 0 _ w hg (by rw [T.len, Nat.add_zero, List.size_toArray]; exact hfit) (T.one v)
    rw [Nat.add_zero, T.len] at hst
    have hs : cs.toArray.toList = cs := by simp
    rw [hs] at hst
    have hrun : (storeVar e ⟨g, off, none⟩ (.agg (enc v).toArray)).run P w = .ok () (w.setRow g (cs.take off ++ enc v ++ cs.drop (off + k)).toArray) := by
      simp [storeVar, T.sizeOf, Value.cells, T.len, hst]
    unfold Oper.wp execOp
    simp only [ho, hx, hy, Instr.storeAt, Instr.sureAddr, Sem.run_bind, Sem.run_pure, Result.andThen_ok, hrun]
    rw [Oper.upon_skip, hd]
    exact hK _ _ (h _ (only_setRow hg _).1 (only_setRow hg _).2)
theorem CellTy.step_load {o : Oper} {a : Act} {w : World} {K : Act → World → Prop} {Q : Exit → Act → World → Prop} {ops : Array Oper} {E : Prop} (hw : Region.wanted o (yielded ops a.tmps) = true) (x : Operand) (ho : o.op = .load e x)
    (g off : Nat) (hx : a.eval x = .pointer (some ⟨g, off, none⟩)) (y : α) (hg : RowC w g off (enc y)) (h : K (a.put o.dst (.agg (enc y).toArray)) w) : if Region.wanted o (yielded ops a.tmps) = true then Oper.wp P o a w K Q else E := by
  rw [if_pos hw]
  unfold Oper.wp execOp
  simp only [ho, hx, Instr.loadAt, Instr.sureAddr, Sem.run_bind, Sem.run_pure, Result.andThen_ok, T.load w g off y hg]
  exact h
theorem CellTy.step_storeAt {o : Oper} {a : Act} {w : World} {K : Act → World → Prop} {Q : Exit → Act → World → Prop} {ops : Array Oper} {E : Prop} (hgd : o.guard = none) (x y : Operand) (ho : o.op = .store e x y)
    (hd : o.dst = none) (g off : Nat) (v : α) (hx : a.eval x = .pointer (some ⟨g, off, none⟩)) (hy : a.eval y = .agg (enc v).toArray) (te : TypeId) (cs : List Value) (hg : Blk w g te cs.toArray) (hfit : off + k ≤ cs.length)
    (h : ∀ w', Only [g] w w' → Blk w' g te (cs.take off ++ enc v ++ cs.drop (off + k)).toArray → K a w') : if Region.wanted o (yielded ops a.tmps) = true then Oper.wp P o a w K Q else E := by
  have hw : Region.wanted o (yielded ops a.tmps) = true := by simp [Region.wanted, hgd]
  rw [if_pos hw]
  have hst := run_storeCells_at P g off te (enc v) 0 _ w hg (by rw [T.len, Nat.add_zero, List.size_toArray]; exact hfit) (T.one v)
  rw [Nat.add_zero, T.len] at hst
  have hs : cs.toArray.toList = cs := by simp
  rw [hs] at hst
  have hrun : (storeVar e ⟨g, off, none⟩ (.agg (enc v).toArray)).run P w = .ok () (w.setRow g (cs.take off ++ enc v ++ cs.drop (off + k)).toArray) := by
    simp [storeVar, T.sizeOf, Value.cells, T.len, hst]
  unfold Oper.wp execOp
  simp only [ho, hx, hy, Instr.storeAt, Instr.sureAddr, Sem.run_bind, Sem.run_pure, Result.andThen_ok, hrun]
  rw [Oper.upon_skip, hd]
  exact h _ (only_setRow hg _).1 (only_setRow hg _).2
theorem CellTy.step_store {o : Oper} {a : Act} {w : World} {K : Act → World → Prop} {Q : Exit → Act → World → Prop} {ops : Array Oper} {E : Prop} (hgd : o.guard = none) (x y : Operand) (ho : o.op = .store e x y)
    (hd : o.dst = none) (g : Nat) (v : α) (hx : a.eval x = .pointer (some ⟨g, 0, none⟩)) (hy : a.eval y = .agg (enc v).toArray) (te : TypeId) (cs : Array Value) (hg : Blk w g te cs) (hfit : cs.size = k)
    (h : ∀ w', Only [g] w w' → Blk w' g te (enc v).toArray → K a w') : if Region.wanted o (yielded ops a.tmps) = true then Oper.wp P o a w K Q else E :=
  T.step_storeAt hgd x y ho hd g 0 v hx hy te cs.toList (by simpa using hg) (by rw [Array.length_toList]; omega) fun w' o' b' => h w' o' (by
    rw [List.take_zero, List.nil_append, List.drop_of_length_le (by rw [Array.length_toList]; omega), List.append_nil] at b'
    exact b')
end
theorem results_cell_tmp1 {P : Program} {fn : Func} {p t1 : Tmp} {ty : TypeId} (h : fn.results = #[.cell p ty, .tmp t1]) (tmps : Array Value) (w : World) (g : Nat) (t : TypeId) (cs : Array Value) (fr : Nat × Nat) (d : TypeDesc)
    (hp : tmps.getD p undef = .pointer (some ⟨g, 0, none⟩)) (hg : w.heap[g]? = some (.cells cs t fr))
    (hu : P.underlying ty = some d) (hd : (match d with | .struct _ | .array _ _ => true | _ => false) = true) (hi : (P.info? ty).map (·.size) = some cs.size) :
    (results fn tmps).run P w = .ok (.tuple #[.agg cs, tmps.getD t1 undef]) w := by
  have hp' : tmps[p]?.getD undef = .pointer (some ⟨g, 0, none⟩) := by simpa using hp
  simp [results, h, hp', asAddr, run_loadVar_row w g t ty cs fr d hg hu hd hi]
theorem results_cells2 {P : Program} {fn : Func} {p q : Tmp} {t1 t2 : TypeId} (h : fn.results = #[.cell p t1, .cell q t2]) (tmps : Array Value) (w : World) (a b : Addr) {x y : Value} (hp : tmps.getD p undef = .pointer (some a)) (hq : tmps.getD q undef = .pointer (some b))
    (hx : (loadVar t1 a).run P w = .ok x w) (hy : (loadVar t2 b).run P w = .ok y w) : (results fn tmps).run P w = .ok (.tuple #[x, y]) w := by
  have hp' : tmps[p]?.getD undef = .pointer (some a) := by simpa using hp
  have hq' : tmps[q]?.getD undef = .pointer (some b) := by simpa using hq
  simp [results, h, hp', hq', asAddr, hx, hy]
theorem tyKy : RowTy Try.prog 27 24 encK 32 := ⟨Try.underlying27, by kernel_rfl, encK_len, encK_one, Try.isAgg24, by omega⟩
theorem tyKc : CellTy Try.prog 24 encK 32 := ⟨by kernel_rfl, encK_len, encK_one, Try.isAgg24⟩
theorem zcKy : ((Try.prog.info? 24).bind (·.zero)).map (·.cells.size) = some 32 := by kernel_rfl
theorem zbKy : (Try.prog.info? 24).map (·.bytes) = some 32 := by kernel_rfl
theorem lit32k : (#[Value.int .u8 0, Value.int .u8 0, Value.int .u8 0, Value.int .u8 0, Value.int .u8 0, Value.int .u8 0, Value.int .u8 0, Value.int .u8 0, Value.int .u8 0, Value.int .u8 0, Value.int .u8 0, Value.int .u8 0, Value.int .u8 0, Value.int .u8 0, Value.int .u8 0, Value.int .u8 0, Value.int .u8 0, Value.int .u8 0, Value.int .u8 0, Value.int .u8 0, Value.int .u8 0, Value.int .u8 0, Value.int .u8 0, Value.int .u8 0, Value.int .u8 0, Value.int .u8 0, Value.int .u8 0, Value.int .u8 0, Value.int .u8 0, Value.int .u8 0, Value.int .u8 0, Value.int .u8 0] : Array Value) = (encK zeroKey).toArray := by kernel_rfl
theorem eqKy_run (a b : K32) (V : World) : (Op.equal 24 (.agg (encK a).toArray) (.agg (encK b).toArray)).run Try.prog V = .ok (decide (a = b)) V := by
  rw [encK_arr, encK_arr]
  refine (run_eq_bytes V Try.underlying24 Try.underlying5 (by kernel_rfl) a.1 b.1 a.2 b.2).trans ?_
  congr 1
  rw [decide_eq_decide]
  exact ⟨fun h => Subtype.ext h, fun h => h ▸ rfl⟩
section
variable {P : Program} {ops : Array Oper} {S : World → Prop} {a : Act} {o : Oper} {rest : List Oper} {w : World} {Q : Exit → Act → World → Prop}
theorem wpList_unguard (hw : Region.wanted o (yielded ops a.tmps) = true) (h : wpList P ops Q ({ o with guard := none } :: rest) a w) : wpList P ops Q (o :: rest) a w := by
  unfold wpList at h ⊢
  rw [if_pos (by simp [Region.wanted])] at h
  rw [if_pos hw]
  exact h
theorem yieldsIf_eql_row (hw : Region.wanted o (yielded ops a.tmps) = true) (ty yt : TypeId) (x y : Operand) (ho : o.op = .binOp .eql ty x y yt)
    (cx cy : Array Value) (hx : a.eval x = .agg cx) (hy : a.eval y = .agg cy) (hg : P.eqGuardType P.depth ty = false) (r : Bool) (he : ∀ V, (Op.equal ty (.agg cx) (.agg cy)).run P V = .ok r V) : YieldsIf P ops S o (.bool r) a :=
  .inl ⟨hw, fun w _ => by
    unfold execOp
    simp only [ho, hx, hy]
    unfold eqGuard binOp
    simp [go_sem, hg, he]⟩
theorem CellTy.yieldsIf_load {α : Type} {enc : α → List Value} {k : Nat} {t : TypeId} (T : CellTy P t enc k) (hw : Region.wanted o (yielded ops a.tmps) = true) (x : Operand) (ho : o.op = .load t x)
    (g off : Nat) (hx : a.eval x = .pointer (some ⟨g, off, none⟩)) (y : α) (hg : ∀ W, S W → RowC W g off (enc y)) : YieldsIf P ops S o (.agg (enc y).toArray) a :=
  .inl ⟨hw, fun w hS => by
    unfold execOp
    simp only [ho, hx, Instr.loadAt, Instr.sureAddr, Sem.run_bind, Sem.run_pure, Result.andThen_ok, T.load w g off y (hg w hS)]⟩
end
theorem RowTy.slice_mid {α : Type} {enc : α → List Value} {k : Nat} {P : Program} {t e : TypeId} (T : RowTy P t e enc k) (w : World) (A : Option Addr) (n c i j : Nat) (hi : i ≤ j) (hj : j ≤ c) :
    (Instr.slice t (.slice A n c) (some (.int .i64 (i : Int))) (some (.int .i64 (j : Int))) none).run P w = .ok (.slice (cutA k c i A) (j - i) (c - i)) w := by
  have he : P.elem t = e := by simp [Program.elem, T.slice]
  rw [run_slice_lh w t A n c (by rw [he]; exact T.slice) .i64 .i64 i j (by omega) (by omega) (by omega), he, T.sizeOf]
  simp only [Result.andThen_ok, sliced, Int.toNat_natCast, cutA]
section
variable {α : Type} {enc : α → List Value} {k : Nat} {P : Program} {t e : TypeId} (T : RowTy P t e enc k)
include T
/-- a slice that came in put behind an own row -/
theorem RowTy.wpList_appendIn {ops : Array Oper} {rest : List Oper} {o : Oper} {a : Act} {w : World} {Q : Exit → Act → World → Prop} (hgd : o.guard = none) (hz : ((P.info? e).bind (·.zero)).map (·.cells.size) = some k) (bytes : Nat) (hb : (P.info? e).map (·.bytes) = some bytes) (hby : bytes ≤ 100000) (s x : Operand)
    (ho : o.op = .call { callee := .builtin .append, args := #[s, x], argTypes := #[t, t] })
    (base : Nat) (v : Value) (l : List α) (hs : a.eval s = v) (hown : w.ownsRow base e k v l.length (cellsOf enc l))
    (B : Nat) (A : Option Addr) (c : Nat) (m : List α) (hx : a.eval x = .slice A m.length c) (hg : RowIn enc k w B A c m) (hn : l.length + m.length ≤ 1000000) (hbase : base ≤ w.heap.size)
    (h : ∀ v' w', w'.ownsRow base e k v' (l ++ m).length (cellsOf enc (l ++ m)) → w.grownBy w' v.ownBlock → wpList P ops Q rest (a.put o.dst v') w') : wpList P ops Q (o :: rest) a w := by
  have hsz := T.size
  cases hie : P.info? e with
  | none => simp [hie] at hsz
  | some ie =>
    simp only [hie, Option.map_some, Option.some.injEq, Option.bind_some, Option.map_eq_some_iff] at hsz hz hb
    obtain ⟨z, hz1, hz2⟩ := hz
    refine wpList_append_any w hgd s x t ho base e ie z k bytes T.slice hie hz1 hsz hb hz2 T.pos v l.length (cellsOf enc l) hs hown B A m.length c (cellsOf enc m) hx (hg.reads T.len) (cellsOf_all1 T.one _) ?_ ?_ hbase ?_
    · unfold maxLen; omega
    · have : (l.length + m.length) * bytes ≤ 1000000 * 100000 := Nat.mul_le_mul hn hby
      omega
    · intro v' w' h2 h3 _
      exact h v' w' (by rw [List.length_append, cellsOf_append]; exact h2) h3
end
/-- these blocks stand so, and all that was there ahead of w is as it was -/
structure Holds (w : World) (L : List (Nat × TypeId × Array Value)) (W : World) : Prop where
  below : Below w.heap.size w W
  blks : ∀ x ∈ L, Blk W x.1 x.2.1 x.2.2
section
variable {w W W' : World} {L : List (Nat × TypeId × Array Value)}
theorem Holds.nil (w : World) : Holds w [] w := ⟨Below.refl _ _, fun _ h => by cases h⟩
theorem Holds.call (h : Holds w L W) (hb : Below W.heap.size W W') : Holds w L W' := ⟨h.below.trans (hb.mono h.below.size), fun x hx => below_blk hb (h.blks x hx) (h.blks x hx).lt⟩
theorem Holds.put {t : TypeId} {ob : Obj} {cs : Array Value} (h : Holds w L W) (o : Only [W.heap.size] (W.alloc ob) W') (b : Blk W' W.heap.size t cs) : Holds w ((W.heap.size, t, cs) :: L) W' :=
  ⟨h.below.trans ((((Below.refl _ _).alloc (Nat.le_refl _) ob).trans (o.below (by simp))).mono h.below.size), fun x hx => by
    rcases List.mem_cons.1 hx with rfl | hx
    · exact b
    · exact o.blk ((h.blks x hx).alloc ob) (by have := (h.blks x hx).lt; simp; omega)⟩
theorem Holds.box (h : Holds w L W) (t : TypeId) (cs : Array Value) : Holds w ((W.heap.size, t, cs) :: L) (W.alloc (.cells cs t)) :=
  ⟨h.below.trans (((Below.refl _ _).alloc (Nat.le_refl _) _).mono h.below.size), fun x hx => by
    rcases List.mem_cons.1 hx with rfl | hx
    · exact Blk.new W t cs
    · exact (h.blks x hx).alloc _⟩
theorem Holds.at {x : Nat × TypeId × Array Value} (h : Holds w L W) (hx : x ∈ L) : Blk W x.1 x.2.1 x.2.2 := h.blks x hx
end
theorem step_unguard {P : Program} {ops : Array Oper} {o : Oper} {a : Act} {w : World} {K : Act → World → Prop} {Q : Exit → Act → World → Prop} {E : Prop} (hw : Region.wanted o (yielded ops a.tmps) = true)
    (h : if Region.wanted { o with guard := none } (yielded ops a.tmps) = true then Oper.wp P { o with guard := none } a w K Q else E) : if Region.wanted o (yielded ops a.tmps) = true then Oper.wp P o a w K Q else E := by
  rw [if_pos (by simp [Region.wanted])] at h
  rw [if_pos hw]
  exact h
/-- the zero value of a great type, its cells under a name -/
theorem zeroV_of {P : Program} {t : TypeId} {z : Value} (h : (P.info? t).bind (·.zero) = some z) (w : World) : (zeroValue t).run P w = .ok z w := by
  cases hi : P.info? t with
  | none => simp [hi] at h
  | some i =>
    have hz : i.zero = some z := by simpa [hi] using h
    simp [zeroValue, typeInfo, hi, hz]
theorem zero_of {P : Program} {t : TypeId} {cs : Array Value} {n : Nat} (h : (P.info? t).bind (·.zero) = some (.agg cs)) (hs : cs.size = n + 1) : ∃ Z : Array Value, Z = cs ∧ (∀ w, (zeroValue t).run P w = .ok (.agg Z) w) ∧ Z.size = n + 1 ∧ Z ≠ #[] :=
  ⟨cs, rfl, zeroV_of h, hs, fun q => by rw [q] at hs; simp at hs⟩
end Go.Proofs.Ytimhophelecmjaa
