/- A region that draws its order and whose calls make memory, but whose values hang on nothing new: one walk in the order of the text, over a class of worlds. Over any program. -/
import Derived.Test.YtgcopgnkfokphaaOnly
namespace Go.Proofs.Ytgcopgnkfokphaa
open Go.RowKit
/-- the worlds behind w, of which what was there is as it was -/
def From (w w' : World) : Prop := Below w.heap.size w w'
theorem From.below {w w' : World} (h : From w w') : Below w.heap.size w w' := h
theorem From.call {w w1 w2 : World} (h : From w w1) (hb : Below w1.heap.size w1 w2) : From w w2 := Below.trans h (hb.mono (Below.size h))
theorem wp_region_from {P : Program} {id : Nat} {Q : Exit → Act → World → Prop} {a : Act} {w : World} {l : List Oper} (hm : P.follows .mixedOrders = true) (hB : Region.lexB .any l.toArray = true)
    (h : wpQuiet P l.toArray (From w) (fun a' => ∀ w', From w w' → Q .normal a' w') l a) : (Code.region id l.toArray true).wp P Q a w :=
  wp_region_quiet (C := From w) hm hB (show Below _ _ _ from (Below.refl _ _).drew) (by simpa using h)
section
variable {P : Program} {ops : Array Oper} {C : World → Prop} {Q : Act → Prop} {a : Act} {rest : List Oper}
/-- a guard: it fits at a load from the address in slot i alone -/
theorem at_qload {dst : Option Tmp} {ty ty0 : TypeId} {pos : String} {after : Array Edge} {gd : Option (Nat × Bool)} (i : Nat)
    (h : wpQuiet P ops C Q ({ dst := dst, op := .load ty (.tmp i), type := ty0, pos := pos, after := after, guard := gd } :: rest) a) :
    wpQuiet P ops C Q ({ dst := dst, op := .load ty (.tmp i), type := ty0, pos := pos, after := after, guard := gd } :: rest) a := h
theorem wpQuiet_load_row {o : Oper} (hw : Region.wanted o (yielded ops a.tmps) = true) (ty : TypeId) (x : Operand) (ho : o.op = .load ty x)
    (g : Nat) (hx : a.eval x = .pointer (some ⟨g, 0, none⟩)) (t : TypeId) (cs : Array Value) (d : TypeDesc) (hg : ∀ w, C w → Blk w g t cs)
    (hu : P.underlying ty = some d) (hd : (match d with | .struct _ | .array _ _ => true | _ => false) = true) (hi : (P.info? ty).map (·.size) = some cs.size)
    (h : wpQuiet P ops C Q rest (a.put o.dst (.agg cs))) : wpQuiet P ops C Q (o :: rest) a :=
  wpQuiet_step fun K hK => by
    rw [if_pos hw]
    refine ⟨.agg cs, fun w hC => ?_, hK _ h⟩
    unfold Oper.quietAt execOp
    simp only [ho, hx, Instr.loadAt, Instr.sureAddr, Sem.run_bind, Sem.run_pure, Result.andThen_ok, run_loadVar_row w g t ty cs (0, 0) d (hg w hC) hu hd hi]
    exact ⟨rfl, rfl⟩
/-- a guard: it fits at an '==' of the slots i and j alone -/
theorem at_qeql {dst : Option Tmp} {ty yt ty0 : TypeId} {pos : String} {after : Array Edge} {gd : Option (Nat × Bool)} (i j : Nat)
    (h : wpQuiet P ops C Q ({ dst := dst, op := .binOp .eql ty (.tmp i) (.tmp j) yt, type := ty0, pos := pos, after := after, guard := gd } :: rest) a) :
    wpQuiet P ops C Q ({ dst := dst, op := .binOp .eql ty (.tmp i) (.tmp j) yt, type := ty0, pos := pos, after := after, guard := gd } :: rest) a := h
theorem wpQuiet_eql_row {o : Oper} (hw : Region.wanted o (yielded ops a.tmps) = true) (ty yt : TypeId) (x y : Operand) (ho : o.op = .binOp .eql ty x y yt)
    (cx cy : Array Value) (hx : a.eval x = .agg cx) (hy : a.eval y = .agg cy) (hg : P.eqGuardType P.depth ty = false) (r : Bool) (he : ∀ V, (Op.equal ty (.agg cx) (.agg cy)).run P V = .ok r V)
    (h : wpQuiet P ops C Q rest (a.put o.dst (.bool r))) : wpQuiet P ops C Q (o :: rest) a :=
  wpQuiet_step fun K hK => by
    rw [if_pos hw]
    refine ⟨.bool r, fun w hC => ?_, hK _ h⟩
    unfold Oper.quietAt execOp
    simp only [ho, hx, hy]
    unfold eqGuard binOp
    simp [go_sem, hg, he]
end
end Go.Proofs.Ytgcopgnkfokphaa
