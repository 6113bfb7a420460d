/- The input by which TreeTells' row is shown to be met: its tree has a thousand cells, so that it is well formed is shown by a lemma, not reckoned. -/
import Derived.Test.YtfmidmhbnpincaaDoorTrTy
import Derived.Test.YtfmidmhbnpincaaDoorRoots
namespace Go.Proofs.YtfmidmhbnpincaaDoor
open Go.RowKit Go.ChangeShapes Go.WideShapes
theorem okRow_of {P : Program} {w : World} {t : TypeId} {cs : Array Value} {ts : List TypeId} (h : P.cellTypes P.depth t = some ts) (hl : cs.size = ts.length)
    (hz : ∀ (i : Nat) v u, cs[i]? = some v → ts[i]? = some u → Cell.okWideB P w u v = true) : Cell.okWideRowB P w t cs = true := by
  unfold Cell.okWideRowB
  rw [h]
  simp only [Bool.and_eq_true, beq_iff_eq, List.all_eq_true, List.mem_range]
  refine ⟨by rw [hl]; exact Nat.mod_self _, fun i hi => ?_⟩
  have h1 : cs[i]? = some cs[i] := Array.getElem?_eq_getElem hi
  have h2 : ts[i % ts.length]? = some (ts[i]'(by omega)) := by rw [Nat.mod_eq_of_lt (by omega)]; exact List.getElem?_eq_getElem (by omega)
  rw [h1, h2]
  exact hz i _ _ h1 (List.getElem?_eq_getElem (by omega))
theorem okInput_of {P : Program} {w : World} {f : FuncId} {fn : Func} {args : Array Value} (hi : (P.inits.idxOf? f).isNone = true) (hf : P.funcs[f]? = some fn)
    (hb : (fn.body.isSome && !fn.ours && fn.nfree == 0 && args.size == fn.params.size) = true) (ha : ∀ (j : Nat) t v, fn.params[j]? = some t → args[j]? = some v → Value.okWideB P w t v = true) : Input.okWideB P w f ⟨#[], args, []⟩ = true := by
  unfold Input.okWideB
  rw [hf]
  simp only [hi, List.isEmpty_nil, Bool.and_true, Bool.and_eq_true, List.all_eq_true, List.mem_range]
  have hb' := hb
  simp only [Bool.and_eq_true, beq_iff_eq] at hb'
  refine ⟨by simp, by simpa using hb, fun j hj => ?_⟩
  have h1 : fn.params[j]? = some fn.params[j] := Array.getElem?_eq_getElem hj
  have h2 : args[j]? = some (args[j]'(by omega)) := Array.getElem?_eq_getElem (by omega)
  rw [h1, h2]
  exact ha j _ _ h1 h2
theorem okTree (w : World) : Value.okWideB Tryd.prog w 27 (.agg (Value.int .u32 0 :: List.replicate 1024 (Value.int .u8 0)).toArray) = true := by
  have hs : Tryd.prog.underlying 27 = some (.struct #[(Tryd.prog.fieldsOf 27)[0]!, (Tryd.prog.fieldsOf 27)[1]!]) := by kernel_rfl
  have hc : Tryd.prog.cellTypes Tryd.prog.depth 27 = some (22 :: List.replicate 1024 5) := by kernel_rfl
  have hC : Tryd.prog.cellsOf 27 = 1025 := by kernel_rfl
  unfold Value.okWideB
  rw [hs]
  simp only [Bool.and_eq_true, beq_iff_eq]
  refine ⟨by rw [hC, List.size_toArray, List.length_cons, List.length_replicate], okRow_of hc (by rw [List.size_toArray, List.length_cons, List.length_cons, List.length_replicate, List.length_replicate]) fun i v u hv hu => ?_⟩
  rw [List.getElem?_toArray] at hv
  cases i with
  | zero =>
    obtain rfl := Option.some.inj hv
    obtain rfl := Option.some.inj hu
    kernel_rfl
  | succ i =>
    rw [List.getElem?_cons_succ] at hv hu
    obtain rfl := (List.mem_replicate.1 (List.mem_of_getElem? hv)).2
    obtain rfl := (List.mem_replicate.1 (List.mem_of_getElem? hu)).2
    kernel_rfl
theorem okTells (w : World) : Input.okWideB Tryd.prog w 3 ⟨#[], #[.agg (Value.int .u32 0 :: List.replicate 1024 (Value.int .u8 0)).toArray, .slice none 0 0], []⟩ = true := by
  refine okInput_of (by kernel_rfl) Tryd.func3 (by kernel_rfl) fun j t v ht hv => ?_
  rw [Tryd.params3] at ht
  match j with
  | 0 =>
    obtain rfl := Option.some.inj ht
    obtain rfl := Option.some.inj hv
    exact okTree w
  | 1 =>
    obtain rfl := Option.some.inj ht
    obtain rfl := Option.some.inj hv
    exact (show Value.okWideB Tryd.prog w 28 (.slice none 0 0) = true by kernel_rfl)
  | j + 2 => simp at ht
end Go.Proofs.YtfmidmhbnpincaaDoor
