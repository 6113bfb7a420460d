/- 'copy(a[:], s)' of a text that is longer than the array; results of which the first lies in a cell. Over any program. -/
import Derived.Test.YtgcopgnkfokphaaOnly
import Derived.Test.YtgcopgnkfokphaaBytes
import Derived.Laws.CopyRow
namespace Go.Proofs.Ytgcopgnkfokphaa
open Go.RowKit
theorem results_cell_tmp2 {P : Program} {fn : Func} {p t1 t2 : Tmp} {ty : TypeId} (h : fn.results = #[.cell p ty, .tmp t1, .tmp t2]) (tmps : Array Value) (w : World) (g : Nat) (t : TypeId) (cs : Array Value) (fr : Nat × Nat) (d : TypeDesc)
    (hp : tmps.getD p undef = .pointer (some ⟨g, 0, none⟩)) (hg : w.heap[g]? = some (.cells cs t fr))
    (hu : P.underlying ty = some d) (hd : (match d with | .struct _ | .array _ _ => true | _ => false) = true) (hi : (P.info? ty).map (·.size) = some cs.size) :
    (results fn tmps).run P w = .ok (.tuple #[.agg cs, tmps.getD t1 undef, tmps.getD t2 undef]) w := by
  have hp' : tmps[p]?.getD undef = .pointer (some ⟨g, 0, none⟩) := by simpa using hp
  simp [results, h, hp', asAddr, run_loadVar_row w g t ty cs fr d hg hu hd hi]
theorem run_copy_text {P : Program} (w : World) (dT sT ty elem : TypeId) (g n : Nat) (s : ByteArray) (l : List UInt8) (t : TypeId)
    (hu : P.underlying dT = some (.slice elem)) (hs : (P.info? elem).map (·.size) = some 1) (hg : Blk w g t (bytesA l)) (hn : l.length = n) (hle : n ≤ s.size) :
    (Builtin.copy_ #[dT, sT] ty #[.slice (some ⟨g, 0, none⟩) n n, .string s]).run P w = .ok (goInt n) (w.setRow g (bytesA (s.data.toList.take n))) := by
  have hl : (bytesA (s.data.toList.take n)).toList.length = n := by
    rw [Array.length_toList, bytesA_size, List.length_take, Array.length_toList]; exact Nat.min_eq_left hle
  have hone : ∀ v ∈ (bytesA (s.data.toList.take n)).toList, v.oneCell' = true := by
    intro v hv
    simp only [bytesA, List.mem_map] at hv
    obtain ⟨b, _, rfl⟩ := hv
    rfl
  have hst := run_storeCells_at (P := P) g 0 t (bytesA (s.data.toList.take n)).toList 0 (bytesA l) w hg (by rw [hl, bytesA_size, hn]; omega) hone
  rw [hl] at hst
  simp only [Nat.add_zero, Nat.zero_add, List.take_zero, List.nil_append] at hst
  rw [List.drop_of_length_le (by rw [Array.length_toList, bytesA_size, hn]; omega), List.append_nil] at hst
  have hmin : Nat.min s.size n = n := Nat.min_eq_right hle
  have htk : List.take n (List.map (fun b : UInt8 => Value.int IntKind.u8 (b.toNat : Int)) s.data.toList) = (bytesA (s.data.toList.take n)).toList := by
    rw [← List.map_take]; rfl
  cases hq : P.info? elem with
  | none => simp [hq] at hs
  | some i =>
    simp [Builtin.copy_, run_underlying hu, Builtin.lenOf, Builtin.firstCells, sizeOf, typeInfo, hq, hmin]
    rw [htk, hst]
    simp [Result.andThen]
theorem wpList_copy_text {P : Program} {ops : Array Oper} {rest : List Oper} {o : Oper} {a : Act} {w : World} {Q : Exit → Act → World → Prop} (hgd : o.guard = none) (x y : Operand) (dT sT : TypeId)
    (ho : o.op = .call { callee := .builtin .copy, args := #[x, y], argTypes := #[dT, sT] })
    (elem : TypeId) (g n : Nat) (s : ByteArray) (l : List UInt8) (t : TypeId)
    (hu : P.underlying dT = some (.slice elem)) (hs : (P.info? elem).map (·.size) = some 1) (hg : Blk w g t (bytesA l)) (hn : l.length = n) (hle : n ≤ s.size)
    (hx : a.eval x = .slice (some ⟨g, 0, none⟩) n n) (hy : a.eval y = .string s)
    (h : ∀ w', Only [g] w w' → Blk w' g t (bytesA (s.data.toList.take n)) → wpList P ops Q rest (a.put o.dst (goInt n)) w') : wpList P ops Q (o :: rest) a w :=
  wpList_plain hgd fun _ hK => by
    have hrun := run_copy_text (P := P) w dT sT o.type elem g n s l t hu hs hg hn hle
    unfold Oper.wp execOp
    simp only [ho, resolve, invoke, builtin, Sem.run_bind, Sem.run_pure, Result.andThen_ok, List.map_toArray, List.map_cons, List.map_nil, hx, hy, hrun]
    exact hK _ _ (h _ (only_setRow hg _).1 (only_setRow hg _).2)
/-- A guard for the walk: it fits at a copy alone. -/
theorem at_copy {P : Program} {ops : Array Oper} {rest : List Oper} {a : Act} {w : World} {Q : Exit → Act → World → Prop} {dst : Option Tmp} {args : Array Operand} {ts : Array TypeId} {ty0 : TypeId} {pos : String} {after : Array Edge}
    (h : wpList P ops Q ({ dst := dst, op := .call { callee := .builtin .copy, args := args, argTypes := ts }, type := ty0, pos := pos, after := after, guard := none } :: rest) a w) :
    wpList P ops Q ({ dst := dst, op := .call { callee := .builtin .copy, args := args, argTypes := ts }, type := ty0, pos := pos, after := after, guard := none } :: rest) a w := h
end Go.Proofs.Ytgcopgnkfokphaa
