/- Rows of elements of k cells: forms for regions that draw, taken by hand; literals. Over any program. -/
import Derived.Test.YtgcopgnkfokphaaRowK
import Derived.Test.YtgcopgnkfokphaaQuiet2
namespace Go.Proofs.Ytgcopgnkfokphaa
open Go.RowKit
section
variable {P : Program} {ops : Array Oper}
theorem yieldsIf_build {S : World → Prop} {a : Act} {o : Oper} (hw : Region.wanted o (yielded ops a.tmps) = true) (t : TypeId) (parts : Array (Nat × Operand)) (ho : o.op = .build t parts) (cells : Array Value)
    (hb : P.built t (parts.map fun (i, x) => (i, a.eval x)).toList = some cells) : YieldsIf P ops S o (.agg cells) a :=
  .inl ⟨hw, fun w _ => by
    unfold execOp
    simp only [ho, Sem.run_bind, run_build w t _ cells hb, Result.andThen_ok]
    rfl⟩
theorem wpList_built {rest : List Oper} {o : Oper} {a : Act} {w : World} {Q : Exit → Act → World → Prop} (hgd : o.guard = none) (t : TypeId) (parts : Array (Nat × Operand)) (ho : o.op = .build t parts) (cells : Array Value)
    (hb : P.built t (parts.map fun (i, x) => (i, a.eval x)).toList = some cells) (h : wpList P ops Q rest (a.put o.dst (.agg cells)) w) : wpList P ops Q (o :: rest) a w := by
  refine wpList_plain hgd fun K hK => ?_
  unfold Oper.wp execOp
  simp only [ho, Sem.run_bind, run_build w t _ cells hb, Result.andThen_ok]
  exact hK _ _ h
theorem at_build {rest : List Oper} {a : Act} {w : World} {Q : Exit → Act → World → Prop} {ty ty0 : TypeId} {parts : Array (Nat × Operand)} {pos : String} {after : Array Edge} {gd : Option (Nat × Bool)} (i : Nat)
    (h : wpList P ops Q ({ dst := some i, op := .build ty parts, type := ty0, pos := pos, after := after, guard := gd } :: rest) a w) :
    wpList P ops Q ({ dst := some i, op := .build ty parts, type := ty0, pos := pos, after := after, guard := gd } :: rest) a w := h
theorem at_buildSlice {rest : List Oper} {a : Act} {w : World} {Q : Exit → Act → World → Prop} {ty ty0 : TypeId} {len : Nat} {parts : Array (Nat × Operand)} {pos : String} {after : Array Edge} {gd : Option (Nat × Bool)} (i : Nat)
    (h : wpList P ops Q ({ dst := some i, op := .buildSlice ty len parts, type := ty0, pos := pos, after := after, guard := gd } :: rest) a w) :
    wpList P ops Q ({ dst := some i, op := .buildSlice ty len parts, type := ty0, pos := pos, after := after, guard := gd } :: rest) a w := h
theorem at_appendg {rest : List Oper} {a : Act} {w : World} {Q : Exit → Act → World → Prop} {t t' ty0 : TypeId} {pos : String} {after : Array Edge} {gd : Option (Nat × Bool)} (d i j : Nat)
    (h : wpList P ops Q ({ dst := some d, op := .call { callee := .builtin .append, args := #[.tmp i, .tmp j], argTypes := #[t, t'] }, type := ty0, pos := pos, after := after, guard := gd } :: rest) a w) :
    wpList P ops Q ({ dst := some d, op := .call { callee := .builtin .append, args := #[.tmp i, .tmp j], argTypes := #[t, t'] }, type := ty0, pos := pos, after := after, guard := gd } :: rest) a w := h
theorem at_copyg {rest : List Oper} {a : Act} {w : World} {Q : Exit → Act → World → Prop} {t t' ty0 : TypeId} {pos : String} {after : Array Edge} {gd : Option (Nat × Bool)} (d i j : Nat)
    (h : wpList P ops Q ({ dst := some d, op := .call { callee := .builtin .copy, args := #[.tmp i, .tmp j], argTypes := #[t, t'] }, type := ty0, pos := pos, after := after, guard := gd } :: rest) a w) :
    wpList P ops Q ({ dst := some d, op := .call { callee := .builtin .copy, args := #[.tmp i, .tmp j], argTypes := #[t, t'] }, type := ty0, pos := pos, after := after, guard := gd } :: rest) a w := h
end
section
variable {α : Type} {enc : α → List Value} {k : Nat} {P : Program} {t e : TypeId} (T : RowTy P t e enc k) {ops : Array Oper}
include T
theorem RowTy.yieldsIf_load {S : World → Prop} {a : Act} {o : Oper} (hw : Region.wanted o (yielded ops a.tmps) = true) (x : Operand) (ho : o.op = .load e x)
    (g off : Nat) (hx : a.eval x = .pointer (some ⟨g, off, none⟩)) (y : α) (hg : ∀ w, S w → RowC w g off (enc y)) : YieldsIf P ops S o (.agg (enc y).toArray) a :=
  .inl ⟨hw, fun w hS => by
    unfold execOp
    simp only [ho, hx, Instr.loadAt, Instr.sureAddr, Sem.run_bind, Sem.run_pure, Result.andThen_ok, T.load w g off y (hg w hS)]⟩
theorem RowTy.step_build {o : Oper} {a : Act} {w : World} {K : Act → World → Prop} {Q : Exit → Act → World → Prop} {E : Prop} (hgd : o.guard = none) (hz : ((P.info? e).bind (·.zero)).isSome = true)
    (len : Nat) (parts : Array (Nat × Operand)) (ho : o.op = .buildSlice t len parts) (l : List α) (hl : l.length = len) (h0 : 0 < len) (hsmall : len * k ≤ 2 ^ 24)
    (hp : (parts.map fun (i, x) => (i, a.eval x)).toList = ((l.map fun x => Value.agg (enc x).toArray).zipIdx 0).map fun x => (x.2, x.1))
    (h : K (a.put o.dst (.slice (some ⟨w.heap.size, 0, none⟩) len len)) (w.alloc (.cells (cellsOf enc l).toArray e))) :
    if Region.wanted o (yielded ops a.tmps) = true then Oper.wp P o a w K Q else E := by
  have hw : Region.wanted o (yielded ops a.tmps) = true := by simp [Region.wanted, hgd]
  rw [if_pos hw]
  have hs := T.size
  cases hie : P.info? e with
  | none => simp [hie] at hs
  | some ie =>
    simp only [hie, Option.map_some, Option.some.injEq, Option.bind_some] at hs hz
    obtain ⟨z, hzz⟩ := Option.isSome_iff_exists.1 hz
    refine wp_buildSlice t e len parts ho _ ie z T.slice hie hzz (by rw [hs]; omega) (by rw [hs]; have := Nat.mul_pos h0 T.pos; omega) ?_ h
    rw [hp, hs]
    exact T.fill l _ (by simp [hl])
end
theorem rowIn_new {α : Type} {enc : α → List Value} {k : Nat} {w' : World} {e : TypeId} {g c : Nat} {l : List α} (hb : Blk w' g e (cellsOf enc l).toArray) (hc : l.length ≤ c) (hm : c ≤ maxLen) : RowIn enc k w' w'.heap.size (some ⟨g, 0, none⟩) c l :=
  ⟨hc, hm, fun _ => ⟨g, 0, rfl, hb.lt, by have := RowC.of_blk hb; simpa using this⟩⟩
end Go.Proofs.Ytgcopgnkfokphaa
