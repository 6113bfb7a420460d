/- A map of integers to bools which the call made, and into which it only stores 'true' at new keys: it tells a set. Looked up, written, counted. Over any program. -/
import Derived.Test.YtiboelfakajohaaGenA
import Derived.Maps.Own
namespace Go.Proofs.Ytiboelfakajohaa
open Go.RowKit Go.MapKept
section
variable {P : Program} {w : World} {t tk te : TypeId} {q : IntKind}
/-- block b is a map that has 'true' at the numbers of s, in this order, and nothing else -/
def MapU (q : IntKind) (w : World) (b : Nat) (s : List Int) : Prop :=
  ∃ es clock, w.heap[b]? = some (.map es clock) ∧ es.toList.map (fun e : MapEntry => (e.key, e.val)) = s.map fun z => (Value.int q z, Value.bool true)
theorem MapU.new (w : World) : MapU q (w.alloc (.map #[] 0)) w.heap.size [] := ⟨#[], 0, heap_alloc_new w _, rfl⟩
theorem MapU.lt {b : Nat} {s : List Int} (h : MapU q w b s) : b < w.heap.size := by
  obtain ⟨es, clock, hb, _⟩ := h
  exact (Array.getElem?_eq_some_iff.1 hb).1
theorem MapU.below {b B : Nat} {s : List Int} {w' : World} (h : MapU q w b s) (hb : Below B w w') (hlt : b < B) : MapU q w' b s := by
  obtain ⟨es, clock, h1, h2⟩ := h
  exact ⟨es, clock, (hb.block b hlt).trans h1, h2⟩
theorem findNow_u (z : Int) : ∀ (es : List MapEntry) (s : List Int) (i : Nat), es.map (fun e : MapEntry => (e.key, e.val)) = s.map (fun y => (Value.int q y, Value.bool true)) →
    (z ∈ s → ∃ j, Instr.findNow (.int q) (.int q z) es i = some (some (j, .bool true))) ∧ (z ∉ s → Instr.findNow (.int q) (.int q z) es i = some none)
  | [], [], i, _ => ⟨fun h => absurd h (by simp), fun _ => rfl⟩
  | [], y :: s, i, h => by simp at h
  | e :: es, [], i, h => by simp at h
  | e :: es, y :: s, i, h => by
    simp only [List.map_cons, List.cons.injEq, Prod.mk.injEq] at h
    obtain ⟨⟨h1, h2⟩, h3⟩ := h
    have ih := findNow_u z es s (i + 1) h3
    by_cases hz : z = y
    · subst hz
      refine ⟨fun _ => ⟨i, ?_⟩, fun hn => absurd (List.mem_cons_self ..) hn⟩
      rw [Instr.findNow, h1]
      simp [Instr.sameNow, h2]
    · have hb : (z == y) = false := beq_eq_false_iff_ne.2 hz
      have e1 : Instr.findNow (.int q) (.int q z) (e :: es) i = Instr.findNow (.int q) (.int q z) es (i + 1) := by
        rw [Instr.findNow, h1]
        simp [Instr.sameNow, hb]
      rw [e1]
      refine ⟨fun hm => ih.1 ?_, fun hn => ih.2 fun hm => hn (List.mem_cons_of_mem _ hm)⟩
      rcases List.mem_cons.1 hm with rfl | hm
      · exact absurd rfl hz
      · exact hm
theorem run_checkKey_int (hk : P.underlying tk = some (.int q)) (em : Bool) (z : Int) : (Instr.checkKey em 10000 tk (.int q z)).run P w = .ok () w := by
  rw [show 10000 = 9999 + 1 from rfl, Instr.checkKey]
  simp [run_underlying hk]
theorem MapU.look {b : Nat} {s : List Int} (h : MapU q w b s) (ht : P.underlying t = some (.map tk te)) (hk : P.underlying tk = some (.int q)) (hz : ∀ w, (zeroValue te).run P w = .ok (.bool false) w) (z : Int) :
    (Instr.lookup t (.map (some b)) (.int q z) false).run P w = .ok (.bool (decide (z ∈ s))) w := by
  obtain ⟨es, clock, hb, h1⟩ := h
  have hf := findNow_u (q := q) z es.toList s 0 h1
  by_cases hm : z ∈ s
  · obtain ⟨j, hj⟩ := hf.1 hm
    simp [Instr.lookup, run_underlying ht, MapKept.run_getObj_map hb, run_checkKey_int hk _ z, Instr.findKey, run_underlying hk, hj, Result.andThen, hm]
  · have hj := hf.2 hm
    simp [Instr.lookup, run_underlying ht, MapKept.run_getObj_map hb, run_checkKey_int hk _ z, Instr.findKey, run_underlying hk, hj, hz, Result.andThen, hm]
theorem only_setBlockU {b : Nat} (o : Obj) (w : World) : Only [b] w (ChangeMaps.setBlock w b o) :=
  ⟨rfl, rfl, rfl, by simp [ChangeMaps.setBlock], fun i hi => by
    have : b ≠ i := fun e => hi (by simp [e])
    simp [ChangeMaps.setBlock, Array.getElem?_setIfInBounds_ne this]⟩
theorem MapU.update {b : Nat} {s : List Int} (h : MapU q w b s) (ht : P.underlying t = some (.map tk te)) (hk : P.underlying tk = some (.int q)) (z : Int) (hn : z ∉ s) :
    ∃ w', (Instr.mapUpdate t (.map (some b)) (.int q z) (.bool true)).run P w = .ok () w' ∧ Only [b] w w' ∧ MapU q w' b (s ++ [z]) := by
  obtain ⟨es, clock, hb, h1⟩ := h
  have hlt : b < w.heap.size := (Array.getElem?_eq_some_iff.1 hb).1
  have hj := (findNow_u (q := q) z es.toList s 0 h1).2 hn
  refine ⟨ChangeMaps.setBlock w b (.map (es.push ⟨.int q z, .bool true, clock⟩) (clock + 1)), ?_, only_setBlockU _ w, ⟨_, _, by simp [ChangeMaps.setBlock, hlt]; exact ⟨rfl, rfl⟩, ?_⟩⟩
  · simp [Instr.mapUpdate, run_underlying ht, MapKept.run_getObj_map hb, run_checkKey_int hk _ z, Instr.findKey, run_underlying hk, hj, MapKept.run_setObj_map _ hb, Result.andThen, ChangeMaps.setBlock]
  · rw [Array.toList_push, List.map_append, h1, List.map_append]
    rfl
theorem MapU.len {b : Nat} {s : List Int} (h : MapU q w b s) (ht : P.underlying t = some (.map tk te)) (ty : TypeId) : (Builtin.len_ #[t] ty #[.map (some b)]).run P w = .ok (.int .i64 (s.length : Int)) w := by
  obtain ⟨es, clock, hb, h1⟩ := h
  have hl : es.size = s.length := by
    have := congrArg List.length h1
    simpa using this
  simp [Builtin.len_, run_underlying ht, MapKept.run_getObj_map hb, goInt, Result.andThen, hl]
variable {ops : Array Oper} {rest : List Oper} {o : Oper} {a : Act} {Q : Exit → Act → World → Prop}
theorem wpList_lookU (hw : Region.wanted o (yielded ops a.tmps) = true) (m x : Operand) (hop : o.op = .lookup t m x false) {b : Nat} {s : List Int} (h : MapU q w b s)
    (ht : P.underlying t = some (.map tk te)) (hk : P.underlying tk = some (.int q)) (hz : ∀ w, (zeroValue te).run P w = .ok (.bool false) w)
    (hm : a.eval m = .map (some b)) (z : Int) (hx : a.eval x = .int q z) (r : Bool) (hr : decide (z ∈ s) = r)
    (hK : wpList P ops Q rest (a.put o.dst (.bool r)) w) : wpList P ops Q (o :: rest) a w :=
  wpList_step fun K hK' => by
    rw [if_pos hw]
    have h' := hK' _ _ hK
    have hrun : (execOp a.eval o).run P w = .ok (.value (.bool r)) w := by
      unfold execOp
      simp [hop, hm, hx, h.look ht hk hz z, Result.andThen, hr]
    unfold Oper.wp
    rw [hrun, Oper.upon_value]
    exact h'
theorem wpList_updU (hg : o.guard = none) (m x v : Operand) (hop : o.op = .mapUpdate t m x v) {b : Nat} {s : List Int} (h : MapU q w b s)
    (ht : P.underlying t = some (.map tk te)) (hk : P.underlying tk = some (.int q)) (hm : a.eval m = .map (some b)) (z : Int) (hx : a.eval x = .int q z) (hv : a.eval v = .bool true) (hn : z ∉ s)
    (hK : ∀ w', Only [b] w w' → MapU q w' b (s ++ [z]) → wpList P ops Q rest (a.put o.dst undef) w') : wpList P ops Q (o :: rest) a w := by
  refine wpList_plain hg fun K' hK' => ?_
  obtain ⟨w', hrun, r1, r2⟩ := h.update ht hk z hn
  unfold Oper.wp
  simp [execOp, hop, hm, hx, hv, hrun, Result.andThen]
  exact hK' _ _ (hK w' r1 r2)
theorem at_lookU {dst : Option Tmp} {ty ty0 : TypeId} {pos : String} {after : Array Edge} {gd : Option (Nat × Bool)} (i j : Nat)
    (h : wpList P ops Q ({ dst := dst, op := .lookup ty (.tmp i) (.tmp j) false, type := ty0, pos := pos, after := after, guard := gd } :: rest) a w) :
    wpList P ops Q ({ dst := dst, op := .lookup ty (.tmp i) (.tmp j) false, type := ty0, pos := pos, after := after, guard := gd } :: rest) a w := h
theorem at_updU {dst : Option Tmp} {ty ty0 : TypeId} {v : Operand} {pos : String} {after : Array Edge} {gd : Option (Nat × Bool)} (i j : Nat)
    (h : wpList P ops Q ({ dst := dst, op := .mapUpdate ty (.tmp i) (.tmp j) v, type := ty0, pos := pos, after := after, guard := gd } :: rest) a w) :
    wpList P ops Q ({ dst := dst, op := .mapUpdate ty (.tmp i) (.tmp j) v, type := ty0, pos := pos, after := after, guard := gd } :: rest) a w := h
end
end Go.Proofs.Ytiboelfakajohaa
