import Derived.Maps.Own
import Derived.ProofKit
import Derived.Deep.DeepHandedRow
import Derived.WalkMore
import Derived.RangeFuncNested
import Derived.RangeFuncBound
import Derived.RangeFuncCalls
import Derived.RangeFuncLeaves
import Derived.Shelf.Abstract
import Derived.Shelf.RegionOpen
import Derived.OwnWalkIn
import Derived.TacticsInMore
import Derived.LoopNIn
import Derived.LoopIn
import Derived.Shelf.Strings.BuilderK
import Derived.Test.YtnpmpeoojncjhaaGreatDoorZQd
set_option maxRecDepth 100000
set_option maxHeartbeats 16000000
namespace Go.Proofs.YtnpmpeoojncjhaaGreatDoor
section
open Go.RowKit Go.MapKept
theorem Cn (xs : Array MapEntry) (p : MapEntry → Bool) : xs.findIdx? p = xs.toList.findIdx? p := by
 cases xs
 simp
theorem vC {α : Type} : ∀ (l : List α) (j : Nat) (a : α), l[j]? = some a → l.set j a = l
 | [], _, _, h => by simp at h
 | b :: r, 0, a, h => by simp at h; subst h; rfl
 | b :: r, j + 1, a, h => by simp at h; simp [vC r j a h]
theorem pV {P : Program} {w : World} {tk eb : TypeId} (d : Nat) (hk : P.underlying tk = some (.array 32 eb)) (he : P.underlying eb = some (.int .u8)) (hc : P.cellsOf eb = 1) (em : Bool) (x : aS) :
 (Instr.checkKey em (d + 2) tk (.agg (ay x.1))).run P w = .ok () w := by
 obtain ⟨i, hi⟩ := info_of_underlying he
 have hp : P.plainKey eb = true := by simp [Program.plainKey, he]
 rw [show d + 2 = (d + 1) + 1 from rfl, Instr.checkKey]
 simp only [Sem.run_bind, run_underlying hk, Result.andThen_ok]
 simp only [Std.Legacy.Range.forIn_eq_forIn_range', Std.Legacy.Range.size, Nat.sub_zero, Nat.add_one_sub_one, Nat.div_one]
 have each : ∀ j ∈ List.range' 0 32, j < 32 := by
  intro j hj
  rw [← List.range_eq_range'] at hj
  exact List.mem_range.1 hj
 generalize List.range' 0 32 = is at each
 induction is with
 | nil => simp
 | cons j is ih =>
  have hj : j < x.1.length := by rw [x.2]; exact each j (by simp)
  have p1 := run_part_plain (P := P) w hp (xs := ay x.1) (off := j * 1) (v := .int .u8 (x.1[j]'hj).toNat) (by rw [Nat.mul_one]; exact gT x.1 j hj)
  have p2 : (Instr.checkKey em (d + 1) eb (.int .u8 (x.1[j]'hj).toNat)).run P w = .ok () w := by
   rw [Instr.checkKey]
   simp [run_underlying he]
  simp only [List.forIn_cons, Sem.run_bind, run_sizeOf w hi, hc, Result.andThen_ok, p1, p2, Sem.run_pure]
  exact ih (fun y hy => each y (by simp [hy]))
theorem pU (n : Nat) : ∀ l : List Value, (∀ v ∈ l, Instr.sameBits n v v = true) → (l.zip l).all (fun (x, y) => Instr.sameBits n x y) = true
 | [], _ => rfl
 | v :: l, h => by
  simp only [List.zip_cons_cons, List.all_cons, h v (by simp), Bool.true_and]
  exact pU n l fun u hu => h u (by simp [hu])
structure uX (P : Program) (tk : TypeId) {α : Type} [DecidableEq α] (enc : α → List Value) : Prop where
 desc : ∃ d, P.underlying tk = some d
 check : ∀ (em : Bool) (x : α) (w : World), (Instr.checkKey em 10000 tk (.agg (enc x).toArray)).run P w = .ok () w
 ask : ∀ (x y : α) (w : World), (Op.equal tk (.agg (enc x).toArray) (.agg (enc y).toArray)).run P w = .ok (decide (x = y)) w
 bits : ∀ x : α, ∀ v ∈ enc x, Instr.sameBits 9999 v v = true
section
variable {P : Program} {w : World} {t tk te : TypeId} {α : Type} {enc : α → List Value}
def ic (enc : α → List Value) : List (α × Int) → Nat → List MapEntry
 | [], _ => []
 | p :: m, i => ⟨.agg (enc p.1).toArray, .int .i64 p.2, i⟩ :: ic enc m (i + 1)
theorem E5 : ∀ (m : List (α × Int)) (i : Nat), (ic enc m i).length = m.length
 | [], _ => rfl
 | _ :: m, i => by simp [ic, E5 m (i + 1)]
theorem wE : ∀ (m m' : List (α × Int)) (i : Nat), ic enc (m ++ m') i = ic enc m i ++ ic enc m' (i + m.length)
 | [], m', i => by simp [ic]
 | p :: m, m', i => by simp [ic, wE m m' (i + 1), show i + 1 + m.length = i + (m.length + 1) by omega]
theorem y5 : ∀ (m : List (α × Int)) (i j : Nat) (p : α × Int), m[j]? = some p → (ic enc m i)[j]? = some ⟨.agg (enc p.1).toArray, .int .i64 p.2, i + j⟩
 | [], _, _, _, h => by simp at h
 | q :: m, i, 0, p, h => by simp at h; subst h; rfl
 | q :: m, i, j + 1, p, h => by
  simp at h
  have := y5 m (i + 1) j p h
  simp [ic, this]
  omega
theorem EZ : ∀ (m : List (α × Int)) (i j : Nat) (p : α × Int), j < m.length → ic enc (m.set j p) i = (ic enc m i).set j ⟨.agg (enc p.1).toArray, .int .i64 p.2, i + j⟩
 | [], _, _, _, h => by simp at h
 | q :: m, i, 0, p, _ => by simp [ic]
 | q :: m, i, j + 1, p, h => by
  simp at h
  simp [ic, EZ m (i + 1) j p h, show i + 1 + j = i + (j + 1) by omega]
theorem Bc : ∀ (m : List (α × Int)) (i j : Nat), j < m.length → (ic enc m i).findIdx? (fun e => (e.born : Int) == ((i + j : Nat) : Int)) = some j
 | [], _, _, h => by simp at h
 | q :: m, i, 0, _ => by simp [ic, List.findIdx?_cons]
 | q :: m, i, j + 1, h => by
  simp at h
  have hb : (((i : Nat) : Int) == ((i + (j + 1) : Nat) : Int)) = false := by
   rw [beq_eq_false_iff_ne]; omega
  have := Bc m (i + 1) j h
  rw [show i + 1 + j = i + (j + 1) by omega] at this
  simp only [ic, List.findIdx?_cons, hb, this]
  simp
def iA (enc : α → List Value) (w : World) (b : Nat) (m : List (α × Int)) : Prop := w.heap[b]? = some (.map (ic enc m 0).toArray m.length)
theorem iA.new (w : World) : iA enc (w.alloc (.map #[] 0)) w.heap.size [] := heap_alloc_new w _
theorem iA.lt {b : Nat} {m : List (α × Int)} (h : iA enc w b m) : b < w.heap.size := (Array.getElem?_eq_some_iff.1 h).1
theorem iA.below {b B : Nat} {m : List (α × Int)} {w' : World} (h : iA enc w b m) (hb : Below B w w') (hlt : b < B) : iA enc w' b m := (hb.block b hlt).trans h
theorem iA.drew {b : Nat} {m : List (α × Int)} (h : iA enc w b m) : iA enc w.drew b m := h
theorem iA.VV {b g : Nat} {m : List (α × Int)} {u : TypeId} {cs : Array Value} (h : iA enc w b m) (hb : ax w g u cs) : g ≠ b := by
 rintro rfl
 unfold ax at hb
 unfold iA at h
 rw [h] at hb
 cases hb
theorem ax.IK {b g : Nat} {u : TypeId} {cs : Array Value} {m : List (α × Int)} {w' : World} (h : ax w g u cs) (hm : iA enc w b m) (ho : Only [b] w w') : ax w' g u cs := ho.blk h (by simpa using hm.VV h)
theorem lK {b : Nat} (o : Obj) (w : World) : Only [b] w (ChangeMaps.setBlock w b o) :=
 ⟨rfl, rfl, rfl, by simp [ChangeMaps.setBlock], fun i hi => by
  have : b ≠ i := fun e => hi (by simp [e])
  simp [ChangeMaps.setBlock, Array.getElem?_setIfInBounds_ne this]⟩
theorem iA.zI {b : Nat} {m m' : List (α × Int)} (h : iA enc w b m) (es : Array MapEntry) (n : Nat) (he : es.toList = ic enc m' 0) (hn : n = m'.length) : iA enc (ChangeMaps.setBlock w b (.map es n)) b m' := by
 have hlt := h.lt
 have : es = (ic enc m' 0).toArray := Array.ext' (by simpa using he)
 subst this hn
 simp [iA, ChangeMaps.setBlock, hlt]
theorem iA.len {b : Nat} {m : List (α × Int)} (h : iA enc w b m) (ht : P.underlying t = some (.map tk te)) (ty : TypeId) : (Builtin.len_ #[t] ty #[.map (some b)]).run P w = .ok (.int .i64 (m.length : Int)) w := by
 simp [Builtin.len_, run_underlying ht, MapKept.run_getObj_map h, goInt, Result.andThen, E5]
theorem iA.VB {b : Nat} {m : List (α × Int)} (h : iA enc w b m) (x : α) (j : Nat) (n v : Int) (hj : m[j]? = some (x, n)) :
 ∃ w', (Instr.entryStore t (.map (some b)) (.int .i64 (j : Int)) (.int .i64 v)).run P w = .ok () w' ∧ Only [b] w w' ∧ iA enc w' b (m.set j (x, v)) := by
 have hlt : j < m.length := (List.getElem?_eq_some_iff.1 hj).1
 have h3 : (ic enc m 0)[j]? = some ⟨.agg (enc x).toArray, .int .i64 n, 0 + j⟩ := y5 m 0 j (x, n) hj
 have hf := Bc (enc := enc) m 0 j hlt
 rw [Nat.zero_add] at hf
 have hidx : (ic enc m 0).toArray.findIdx? (fun e => (e.born : Int) == (j : Int)) = some j := by rw [Cn]; exact hf
 refine ⟨ChangeMaps.setBlock w b (.map ((ic enc m 0).toArray.modify j fun e => { e with val := .int .i64 v }) m.length), ?_, lK _ w, h.zI _ _ ?_ (by simp)⟩
 ·simp [Instr.entryStore, MapKept.run_getObj_map h, asInt, asIntOf, hidx, MapKept.run_setObj_map _ h, Result.andThen, ChangeMaps.setBlock]
 ·rw [Array.toList_modify, ChangeMaps.modify_eq_set _ _ _ _ h3, EZ m 0 j (x, v) hlt]
variable {ops : Array Oper} {o : Oper} {a : Act} {Q : Exit → Act → World → Prop} {K' : Act → World → Prop} {E : Prop}
theorem tQ (hgd : o.guard = none) (m x v : Operand) (hop : o.op = .entryStore t m x v) (hd : o.dst = none) {b : Nat} {s : List (α × Int)} (h : iA enc w b s) (hm : a.eval m = .map (some b)) (k : α) (j : Nat) (n z : Int)
 (hx : a.eval x = .int .i64 (j : Int)) (hv : a.eval v = .int .i64 z) (hj : s[j]? = some (k, n))
 (hK : ∀ w', Only [b] w w' → iA enc w' b (s.set j (k, z)) → K' a w') : if Region.wanted o (yielded ops a.tmps) = true then Oper.wp P o a w K' Q else E := by
 have hw : Region.wanted o (yielded ops a.tmps) = true := by simp [Region.wanted, hgd]
 rw [if_pos hw]
 obtain ⟨w', hrun, r1, r2⟩ := h.VB (P := P) (t := t) k j n z hj
 unfold Oper.wp execOp
 simp only [hop, hm, hx, hv, Sem.run_bind, hrun, Result.andThen_ok, Sem.run_pure]
 rw [Oper.upon_skip, hd]
 exact hK _ r1 r2
end
section
variable {P : Program} {w : World} {t tk te : TypeId} {α : Type} [DecidableEq α] {enc : α → List Value}
theorem uX.stays (K : uX P tk enc) (x : α) : (Instr.keyThatStays (.agg (enc x).toArray) (.agg (enc x).toArray)).run P w = .ok (.agg (enc x).toArray) w := by
 unfold Instr.keyThatStays
 have h : Instr.sameBits 10000 (.agg (enc x).toArray) (.agg (enc x).toArray) = true := by
  rw [show 10000 = 9999 + 1 from rfl, Instr.sameBits]
  simp only [beq_self_eq_true, Bool.true_and]
  exact pU 9999 (enc x) (K.bits x)
 rw [if_pos h]
 rfl
def xC (x : α) : List (α × Int) → Nat → Option (Nat × Int)
 | [], _ => none
 | p :: m, i => if x = p.1 then some (i, p.2) else xC x m (i + 1)
theorem uW (x : α) : ∀ (m : List (α × Int)) (i j : Nat) (n : Int), xC x m i = some (j, n) → i ≤ j ∧ m[j - i]? = some (x, n)
 | [], _, _, _, h => by simp [xC] at h
 | p :: m, i, j, n, h => by
  unfold xC at h
  split at h
  ·rename_i e
   simp at h
   obtain ⟨rfl, rfl⟩ := h
   exact ⟨Nat.le_refl _, by rw [Nat.sub_self, e]; rfl⟩
  ·obtain ⟨h1, h2⟩ := uW x m (i + 1) j n h
   refine ⟨by omega, ?_⟩
   rw [show j - i = (j - (i + 1)) + 1 by omega]
   simpa using h2
theorem jZ (x : α) : ∀ (m : List (α × Int)) (i : Nat), xC x m i = none ↔ x ∉ m.map (·.1)
 | [], _ => by simp [xC]
 | p :: m, i => by
  unfold xC
  split
  ·rename_i e; simp [e]
  ·rename_i e; rw [jZ x m (i + 1)]; simp [e]
theorem zo (x : α) (n : Int) : ∀ (m : List (α × Int)) (i : Nat), xC x m i = none → xC x (m ++ [(x, n)]) i = some (i + m.length, n)
 | [], i, _ => by simp [xC]
 | p :: m, i, h => by
  unfold xC at h
  split at h
  ·cases h
  ·rename_i e
   have := zo x n m (i + 1) h
   simp only [List.cons_append, xC, if_neg e, this, List.length_cons]
   congr 2; omega
def kD (x : α) (m : List (α × Int)) : Int := ((xC x m 0).map (·.2)).getD 0
def qV (x : α) (m : List (α × Int)) : List (α × Int) := if x ∈ m.map (·.1) then m else m ++ [(x, 0)]
def pK (x : α) (m : List (α × Int)) : Nat := ((xC x m 0).map (·.1)).getD m.length
theorem xE (x : α) (m : List (α × Int)) : (qV x m)[pK x m]? = some (x, kD x m) := by
 unfold qV pK kD
 cases h : xC x m 0 with
 | none =>
  rw [if_neg ((jZ x m 0).1 h)]
  simp
 | some p =>
  obtain ⟨j, n⟩ := p
  rw [if_pos (Classical.byContradiction fun hn => by rw [(jZ x m 0).2 hn] at h; cases h)]
  simpa using (uW x m 0 j n h).2
theorem Mc (x : α) (m : List (α × Int)) : kD x (qV x m) = kD x m := by
 unfold qV
 split
 ·rfl
 ·rename_i h
  unfold kD
  rw [(jZ x m 0).2 h, zo x 0 m 0 ((jZ x m 0).2 h)]
  rfl
theorem Q4 (x : α) (m : List (α × Int)) : pK x m < (qV x m).length := (List.getElem?_eq_some_iff.1 (xE x m)).1
theorem EP (K : uX P tk enc) (x : α) : ∀ (m : List (α × Int)) (i i0 : Nat), (Instr.findAsking tk (.agg (enc x).toArray) (ic enc m i0) i).run P w = .ok ((xC x m i).map fun q => (q.1, Value.int .i64 q.2)) w
 | [], i, i0 => by simp [ic, Instr.findAsking, xC]
 | p :: m, i, i0 => by
  have h1 := K.ask x p.1 w
  have ih := EP K x m (i + 1) (i0 + 1)
  by_cases h : x = p.1
  ·rw [decide_eq_true h] at h1
   simp only [ic, Instr.findAsking, Sem.run_bind, h1, Result.andThen_ok, xC, if_pos h, Option.map_some]
   rfl
  ·rw [decide_eq_false h] at h1
   simp only [ic, Instr.findAsking, Sem.run_bind, h1, Result.andThen_ok, xC, if_neg h]
   simpa using ih
theorem EO (K : uX P tk enc) (x : α) (m : List (α × Int)) : (Instr.findKey tk (.agg (enc x).toArray) (ic enc m 0)).run P w = .ok ((xC x m 0).map fun q => (q.1, Value.int .i64 q.2)) w := by
 obtain ⟨d, hd⟩ := K.desc
 cases m with
 | nil => simp [Instr.findKey, run_underlying hd, ic, Instr.findNow, xC]
 | cons p m =>
  have h1 : Instr.findNow d (.agg (enc x).toArray) (ic enc (p :: m) 0) 0 = none := by
   have h2 : Instr.sameNow d (.agg (enc x).toArray) (.agg (enc p.1).toArray) = none := by cases d <;> rfl
   simp only [ic, Instr.findNow, h2]
  have h3 := EP (w := w) K x (p :: m) 0 0
  simp only [Instr.findKey, Sem.run_bind, run_underlying hd, Result.andThen_ok, h1]
  exact h3
theorem iA.look {b : Nat} {m : List (α × Int)} (h : iA enc w b m) (K : uX P tk enc) (ht : P.underlying t = some (.map tk te)) (hz : ∀ w, (zeroValue te).run P w = .ok (.int .i64 0) w) (x : α) :
 (Instr.lookup t (.map (some b)) (.agg (enc x).toArray) false).run P w = .ok (.int .i64 (kD x m)) w := by
 have h1 := EO (w := w) K x m
 unfold kD
 cases hat : xC x m 0 with
 | none =>
  rw [hat] at h1
  simp [Instr.lookup, run_underlying ht, MapKept.run_getObj_map h, K.check, h1, hz, Result.andThen]
 | some p =>
  rw [hat] at h1
  simp [Instr.lookup, run_underlying ht, MapKept.run_getObj_map h, K.check, h1, Result.andThen]
theorem iA.entry {b : Nat} {m : List (α × Int)} (h : iA enc w b m) (K : uX P tk enc) (ht : P.underlying t = some (.map tk te)) (hz : ∀ w, (zeroValue te).run P w = .ok (.int .i64 0) w) (x : α) :
 ∃ w', (Instr.mapEntry t (.map (some b)) (.agg (enc x).toArray)).run P w = .ok (.tuple #[.int .i64 (kD x m), .int .i64 (pK x m : Int)]) w' ∧ Only [b] w w' ∧ iA enc w' b (qV x m) := by
 have h1 := EO (w := w) K x m
 cases hat : xC x m 0 with
 | none =>
  rw [hat] at h1
  have hw : qV x m = m ++ [(x, 0)] := by unfold qV; rw [if_neg ((jZ x m 0).1 hat)]
  have hc : kD x m = 0 := by unfold kD; rw [hat]; rfl
  have hi : pK x m = m.length := by unfold pK; rw [hat]; rfl
  rw [hw, hc, hi]
  refine ⟨ChangeMaps.setBlock w b (.map ((ic enc m 0).toArray.push ⟨.agg (enc x).toArray, .int .i64 0, m.length⟩) (m.length + 1)), ?_, lK _ w, h.zI _ _ ?_ (by simp)⟩
  ·simp [Instr.mapEntry, run_underlying ht, MapKept.run_getObj_map h, K.check, h1, hz, MapKept.run_setObj_map _ h, goInt, Result.andThen, ChangeMaps.setBlock]
  ·rw [Array.toList_push, wE]
   simp [ic]
 | some p =>
  obtain ⟨j, n⟩ := p
  rw [hat] at h1
  obtain ⟨_, h2⟩ := uW x m 0 j n hat
  rw [Nat.sub_zero] at h2
  have h3 : (ic enc m 0)[j]? = some ⟨.agg (enc x).toArray, .int .i64 n, 0 + j⟩ := y5 m 0 j (x, n) h2
  have hw : qV x m = m := by unfold qV; rw [if_pos (List.mem_map.2 ⟨(x, n), List.mem_of_getElem? h2, rfl⟩)]
  have hc : kD x m = n := by unfold kD; rw [hat]; rfl
  have hi : pK x m = j := by unfold pK; rw [hat]; rfl
  have hmod : ((ic enc m 0).modify j fun e => { e with key := .agg (enc x).toArray }) = ic enc m 0 := by
   rw [ChangeMaps.modify_eq_set _ _ _ _ h3]
   exact vC _ _ _ h3
  rw [hw, hc, hi]
  refine ⟨ChangeMaps.setBlock w b (.map (ic enc m 0).toArray m.length), ?_, lK _ w, h.zI _ _ (by simp) rfl⟩
  simp [Instr.mapEntry, run_underlying ht, MapKept.run_getObj_map h, K.check, h1, h3, K.stays, hmod, MapKept.run_setObj_map _ h, goInt, Result.andThen, ChangeMaps.setBlock]
variable {ops : Array Oper} {rest : List Oper} {o : Oper} {a : Act} {Q : Exit → Act → World → Prop} {K' : Act → World → Prop} {E : Prop}
theorem xQ (hw : Region.wanted o (yielded ops a.tmps) = true) (m x : Operand) (hop : o.op = .lookup t m x false) {b : Nat} {s : List (α × Int)} (h : iA enc w b s)
 (K : uX P tk enc) (ht : P.underlying t = some (.map tk te)) (hz : ∀ w, (zeroValue te).run P w = .ok (.int .i64 0) w) (hm : a.eval m = .map (some b)) (k : α) (hx : a.eval x = .agg (enc k).toArray) (r : Int) (hr : kD k s = r)
 (hK : K' (a.put o.dst (.int .i64 r)) w) : if Region.wanted o (yielded ops a.tmps) = true then Oper.wp P o a w K' Q else E := by
 rw [if_pos hw]
 have hrun : (execOp a.eval o).run P w = .ok (.value (.int .i64 r)) w := by
  unfold execOp
  simp [hop, hm, hx, h.look K ht hz k, Result.andThen, hr]
 unfold Oper.wp
 rw [hrun, Oper.upon_value]
 exact hK
theorem wu (hgd : o.guard = none) (m x : Operand) (hop : o.op = .mapEntry t m x) {b : Nat} {s : List (α × Int)} (h : iA enc w b s)
 (K : uX P tk enc) (ht : P.underlying t = some (.map tk te)) (hz : ∀ w, (zeroValue te).run P w = .ok (.int .i64 0) w) (hm : a.eval m = .map (some b)) (k : α) (hx : a.eval x = .agg (enc k).toArray)
 (hK : ∀ w', Only [b] w w' → iA enc w' b (qV k s) → K' (a.put o.dst (.tuple #[.int .i64 (kD k s), .int .i64 (pK k s : Int)])) w') : if Region.wanted o (yielded ops a.tmps) = true then Oper.wp P o a w K' Q else E := by
 have hw : Region.wanted o (yielded ops a.tmps) = true := by simp [Region.wanted, hgd]
 rw [if_pos hw]
 obtain ⟨w', hrun, r1, r2⟩ := h.entry K ht hz k
 have XT : (execOp a.eval o).run P w = .ok (.value (.tuple #[.int .i64 (kD k s), .int .i64 (pK k s : Int)])) w' := by
  unfold execOp
  simp [hop, hm, hx, hrun, Result.andThen]
 unfold Oper.wp
 rw [XT, Oper.upon_value]
 exact hK _ r1 r2
def qX (s : List α) (x : α) : List α := if x ∈ s then s else s ++ [x]
structure Io (m : List (α × Int)) (s : List α) (j : Nat) : Prop where
 keys : m.map (·.1) = s
 pos : ∀ p ∈ m, 1 ≤ p.2 ∧ p.2 ≤ j
theorem Ja {m : List (α × Int)} {s : List α} {j : Nat} (h : Io m s j) (x : α) : 0 ≤ kD x m ∧ kD x m ≤ j ∧ (0 < kD x m ↔ x ∈ s) := by
 unfold kD
 cases hat : xC x m 0 with
 | none =>
  have := (jZ x m 0).1 hat
  rw [h.keys] at this
  simp [this]
 | some p =>
  obtain ⟨i, n⟩ := p
  obtain ⟨_, h2⟩ := uW x m 0 i n hat
  have hm := List.mem_of_getElem? h2
  have := h.pos _ hm
  have hx : x ∈ s := by rw [← h.keys]; exact List.mem_map.2 ⟨_, hm, rfl⟩
  simp at this
  simp [hx]
  omega
theorem Io.up {m : List (α × Int)} {s : List α} {j : Nat} (h : Io m s j) (x : α) : Io ((qV x m).set (pK x m) (x, kD x m + 1)) (qX s x) (j + 1) := by
 have hg := xE x m
 have hl := Q4 x m
 have hc := Ja h x
 constructor
 ·rw [List.map_set]
  have e1 : ((qV x m).map (·.1)).set (pK x m) x = (qV x m).map (·.1) := vC _ _ _ (by rw [List.getElem?_map, hg]; rfl)
  rw [e1]
  unfold qV qX
  rw [h.keys]
  split
  ·exact h.keys
  ·rw [List.map_append, h.keys]; rfl
 ·intro p hp
  have hold : ∀ q ∈ m, 1 ≤ q.2 ∧ q.2 ≤ ((j + 1 : Nat) : Int) := fun q hq => by have := h.pos q hq; omega
  obtain ⟨i, hi⟩ := List.getElem?_of_mem hp
  rw [List.getElem?_set] at hi
  split at hi
  ·try rw [if_pos (by omega)] at hi
   cases hi
   constructor
   ·show 1 ≤ kD x m + 1; omega
   ·show kD x m + 1 ≤ ((j + 1 : Nat) : Int); omega
  ·rename_i hne
   unfold qV at hi
   split at hi
   ·exact hold p (List.mem_of_getElem? hi)
   ·rename_i hx
    rw [List.getElem?_append] at hi
    split at hi
    ·exact hold p (List.mem_of_getElem? hi)
    ·rename_i hlen
     have hix : pK x m = m.length := by unfold pK; rw [(jZ x m 0).2 hx]; rfl
     have : i - m.length = 0 := by
      rcases Nat.eq_zero_or_pos (i - m.length) with h0 | h0
      ·exact h0
      ·rw [List.getElem?_eq_none (by simp; omega)] at hi
       cases hi
     omega
theorem EL : ∀ l s : List α, (l.foldl qX s).length ≤ s.length + l.length
 | [], s => by simp
 | x :: l, s => by
  rw [List.foldl_cons]
  refine Nat.le_trans (EL l _) ?_
  unfold qX
  split <;> simp <;> omega
theorem AY : ∀ l s : List α, (l.foldl qX s).length = s.length + l.length ↔ (∀ x ∈ l, x ∉ s) ∧ l.Nodup
 | [], s => by simp
 | x :: l, s => by
  rw [List.foldl_cons]
  by_cases h : x ∈ s
  ·have e : qX s x = s := by unfold qX; rw [if_pos h]
   rw [e]
   refine ⟨fun h1 => ?_, fun h1 => absurd h (h1.1 x (by simp))⟩
   have := EL l s
   rw [List.length_cons] at h1
   omega
  ·have e : qX s x = s ++ [x] := by unfold qX; rw [if_neg h]
   rw [e, show s.length + (x :: l).length = (s ++ [x]).length + l.length by simp; omega, AY l (s ++ [x]), List.nodup_cons]
   constructor
   ·rintro ⟨h1, h2⟩
    refine ⟨fun y hy => ?_, ?_, h2⟩
    ·rcases List.mem_cons.1 hy with rfl | hy
     ·exact h
     ·exact fun hs => h1 y hy (by simp [hs])
    ·exact fun hx => h1 x hx (by simp)
   ·rintro ⟨h1, h2, h3⟩
    refine ⟨fun y hy hs => ?_, h3⟩
    rcases List.mem_append.1 hs with hs | hs
    ·exact h1 y (by simp [hy]) hs
    ·simp at hs; exact h2 (hs ▸ hy)
theorem EK (l : List α) : (l.foldl qX []).length = l.length ↔ l.Nodup := by
 have := AY l []
 simpa using this
theorem G9 (l : List α) (j : Nat) (hj : j < l.length) : (l.take (j + 1)).foldl qX [] = qX ((l.take j).foldl qX []) l[j] := by
 rw [List.take_succ_eq_append_getElem hj, List.foldl_append]
 rfl
end
end
section
open Go.RowKit
abbrev WM := aS × aQ .u32
theorem wS {P : Program} {w : World} {t tk ti e : TypeId} {f0 f1 : Field} {q : IntKind} (hs : P.underlying t = some (.struct #[f0, f1])) (n0 : f0.name ≠ "_") (n1 : f1.name ≠ "_") (o0 : f0.offset = 0) (o1 : f1.offset = 32) (t0 : f0.type = tk) (t1 : f1.type = ti)
 (hk : P.underlying tk = some (.array 32 e)) (he : P.underlying e = some (.int .u8)) (hc : P.cellsOf e = 1) (hct : P.cellsOf tk = 32) (hi : P.underlying ti = some (.int q)) (em : Bool) (x : aS × aQ q) :
 (Instr.checkKey em 10000 t (.agg (aR q x).toArray)).run P w = .ok () w := by
 have e1 : (Instr.checkKey em 9999 tk (.agg (ay x.1.1))).run P w = .ok () w := pV 9997 hk he hc em x.1
 have e2 : (Instr.checkKey em 9999 ti (.int q x.2.1)).run P w = .ok () w := by
  rw [show 9999 = 9998 + 1 from rfl, Instr.checkKey]
  simp [run_underlying hi]
 have px : (part tk (aR q x).toArray 0).run P w = .ok (.agg (ay x.1.1)) w := by rw [nX w hk hct, ko]
 have qx := nY w hi (aR q x).toArray 32 _ (sI x)
 subst t0 t1
 rw [show 10000 = 9999 + 1 from rfl, Instr.checkKey]
 simp [run_underlying hs, n0, n1, o0, o1, px, qx, e1, e2, Result.andThen]
theorem IW : uX Tryz.prog 142 (α := WM) (aR .u32) where
 desc := ⟨_, show Tryz.prog.underlying 142 = some (.struct #[(Tryz.prog.fieldsOf 142)[0]!, (Tryz.prog.fieldsOf 142)[1]!]) by kernel_rfl⟩
 check em x w := wS (f0 := (Tryz.prog.fieldsOf 142)[0]!) (f1 := (Tryz.prog.fieldsOf 142)[1]!) (by kernel_rfl) (by decide +kernel) (by decide +kernel) (by kernel_rfl) (by kernel_rfl) (by kernel_rfl) (by kernel_rfl) Tryz.underlying26 Tryz.underlying5 (by kernel_rfl) (by kernel_rfl) Tryz.underlying24 em x
 ask x y w := EX x y w
 bits x v hv := by
  rcases List.mem_append.1 hv with h | h
  ·simp only [ak, ay, List.mem_map] at h
   obtain ⟨_, _, rfl⟩ := h
   simp [Instr.sameBits]
  ·rw [List.mem_singleton.1 h]; simp [Instr.sameBits]
theorem Yq : cZ Tryz.prog 142 (aR .u32) 33 := ⟨jU.size, jU.len, jU.one, jU.agg⟩
theorem Ip (w : World) : (zeroValue 3).run Tryz.prog w = .ok (.int .i64 0) w := C8 (by kernel_rfl) w
theorem Et : Tryz.prog.underlying 403 = some (.map 142 3) := Tryz.underlying403
theorem Jr (A : Option Addr) (c : Nat) (l : List WM) (w : World) (hl : aK (aR .u32) 33 w w.heap.size A c l) (hn : l.length ≤ 1000) :
 Calls Tryz.prog 327 #[.slice A l.length c] w fun e w' => ∃ b m, e = .returned (.map (some b)) ∧ w.heap.size ≤ b ∧ iA (aR .u32) w' b m ∧ Io m (l.foldl qX []) l.length ∧ Below w.heap.size w w' := by
 have HL := qh hl
 have HN := qh hn
 have hmm := @run_makeMap Tryz.prog
 have M0 := qh (iA.new (enc := (aR .u32 : WM → List Value)) w)
 have B0 := qh ((Below.refl w.heap.size w).alloc (Nat.le_refl _) (.map #[] 0))
 have C0 := qh (show Io ([] : List (WM × Int)) ((l.take 0).foldl qX []) 0 from ⟨rfl, by simp⟩)
 have HB := qh (Nat.le_refl w.heap.size)
 have hm0 : l.length ≤ 9223372036854775807 := by omega
 clear hl hn
 go_enter Tryz.func327, Tryz.ntmps327
 go_wp2_with fail
 go_loopw [9] (fun si wr => ∃ (j : Nat) (m : List (WM × Int)), si = .int .i64 j ∧ j ≤ l.length ∧ Hid (iA (aR .u32) wr w.heap.size m) ∧ Hid (Io m ((l.take j).foldl qX []) j) ∧ Hid (Below w.heap.size w wr)) (fun si _ => l.length - (intOf si).toNat)
 case atStart => exact ⟨0, [], rfl, Nat.zero_le _, M0, C0, B0⟩
 case round =>
  clear M0 B0 C0
  obtain ⟨j, m, rfl, hj, MM, CC, BB⟩ := hrel
  by_cases hlt : j < l.length
  ·have hd : decide ((j : Int) < (l.length : Int)) = true := by simp; omega
   have hi0 : (0 : Int) ≤ (j : Int) := by omega
   have hi1 : (j : Int) < (l.length : Int) := by omega
   obtain ⟨g, o, hA, hg, hc⟩ := (HL.out.below BB.out).at (fT _) hlt
   have CU := qh (CC.out.up l[j])
   rw [← G9 l j hlt] at CU
   obtain ⟨x, hx⟩ : ∃ x, l[j]'hlt = x := ⟨_, rfl⟩
   rw [hx] at hc CU
   have HX := qh hc
   have HJ := qh (show j + 1 ≤ l.length from hlt)
   obtain ⟨n, hcn⟩ : ∃ n, kD x m = n := ⟨_, rfl⟩
   have CN := qh hcn
   have HW := qh (show IntKind.i64.wrap (n + 1) = n + 1 by have h1 := Ja CC.out x; have h2 := HN.out; rw [hcn] at h1; rw [IntKind.wrap_i64]; omega)
   have GET := qh (xE x m)
   rw [hcn] at CU
   subst hA
   clear hc hx hg hcn CC
   go_wp2_with (first
    | ((with_reducible refine az 11 ?_); refine jU.af rfl (.tmp 11) rfl g (o + j * 33) rfl x HX.out ?_)
    | ((with_reducible refine ag 5 12 ?_); refine Yq.aj rfl (.tmp 5) (.tmp 12) rfl rfl wr.heap.size x rfl rfl 142 _ (ax.new wr 142 _) rfl ?_; intro w2 o2 b2
       have BE := ((Below.refl wr.heap.size wr).alloc (Nat.le_refl _) _).trans (o2.below (by simp))
       have XB := qh b2
       have M2 := qh (MM.out.below BE MM.out.lt)
       have B2 := qh (BB.out.trans (BE.mono BB.out.size))
       clear o2 b2 BE MM BB
       have MM := M2
       have BB := B2
       clear M2 B2))
   have Jh := qh (show ax w2.drew wr.heap.size 142 _ from XB.out)
   have M2 := qh (MM.out.drew)
   have B2 := qh (BB.out.trans (Below.refl _ _).drew)
   clear XB MM BB
   have XB := Jh
   have MM := M2
   have BB := B2
   clear Jh M2 B2
   refine wp_region_held_drew (S := fun V => au V wr.heap.size 0 (aR .u32 x)) (by kernel_rfl) (au.ah XB.out) ?_
   intro hS
   generalize w2.drew = wd at XB MM BB hS ⊢
   refine tkp 0 (.map (some w.heap.size)) rfl hS ?_
   go_simp
   refine tk 1 (.agg (aR .u32 x).toArray) rfl (Yq.aB (by rfl) (.tmp 5) rfl wr.heap.size 0 rfl x (fun _ h => h)) hS ?_
   go_simp
   refine rd2 2 4 rfl (fun Kq hK => ?_) rfl (fun Kq hK => ?_)
   ·refine xQ (by rfl) (.tmp 13) (.tmp 14) rfl MM.out IW Et Ip rfl x rfl n CN.out ?_
    refine hK.out _ _ (au.ah XB.out) (fun hS => ?_)
    clear hK Kq
    go_simp
    refine tk 3 (.int .i64 (n + 1)) rfl (Or.inl ⟨by rfl, fun W _ => by go_simp; first | rw [HW.out] | skip⟩) hS ?_
    go_simp
    refine rd 4 rfl (fun Kq hK => ?_)
    refine wu rfl (.tmp 13) (.tmp 14) rfl MM.out IW Et Ip rfl x rfl ?_
    intro w4 o4 m4
    have Jh := qh (ax.IK XB.out MM.out o4)
    have QS := qh (BB.out.trans (o4.below (by simp)))
    clear MM
    have MM := qh m4
    clear XB BB o4 m4
    have XB := Jh
    have BB := QS
    clear Jh QS
    refine hK.out _ _ (au.ah XB.out) (fun hS => ?_)
    clear hK Kq
    go_simp
    refine tkp 5 (.int .i64 (pK x m : Int)) rfl hS ?_
    go_simp
    refine rd 6 rfl (fun Kq hK => ?_)
    refine tQ rfl (.tmp 13) (.tmp 18) (.tmp 16) rfl rfl MM.out rfl x (pK x m) (kD x m) (n + 1) rfl rfl GET.out ?_
    intro w5 o5 m5
    have Jh := qh (ax.IK XB.out MM.out o5)
    have QS := qh (BB.out.trans (o5.below (by simp)))
    clear MM
    have MM := qh m5
    clear XB BB o5 m5
    have XB := Jh
    have BB := QS
    clear Jh QS
    refine hK.out _ _ (au.ah XB.out) (fun hS => ?_)
    clear hK Kq
    go_simp
    refine wpAnyH_done (by kernel_rfl) ?_ _
    go_wp2_with fail
    go_roundw
    case rel => exact ⟨j + 1, _, by go_num, HJ.out, MM, CU, BB⟩
    case measure => have := HJ.out; simp [intOf]; omega
   ·refine wu rfl (.tmp 13) (.tmp 14) rfl MM.out IW Et Ip rfl x rfl ?_
    intro w4 o4 m4
    have Jh := qh (ax.IK XB.out MM.out o4)
    have QS := qh (BB.out.trans (o4.below (by simp)))
    clear MM
    have MM := qh m4
    clear XB BB o4 m4
    have XB := Jh
    have BB := QS
    clear Jh QS
    refine hK.out _ _ (au.ah XB.out) (fun hS => ?_)
    clear hK Kq
    go_simp
    refine tkp 5 (.int .i64 (pK x m : Int)) rfl hS ?_
    go_simp
    refine rd 2 rfl (fun Kq hK => ?_)
    refine xQ (by rfl) (.tmp 13) (.tmp 14) rfl MM.out IW Et Ip rfl x rfl n ((Mc x m).trans CN.out) ?_
    refine hK.out _ _ (au.ah XB.out) (fun hS => ?_)
    clear hK Kq
    go_simp
    refine tk 3 (.int .i64 (n + 1)) rfl (Or.inl ⟨by rfl, fun W _ => by go_simp; first | rw [HW.out] | skip⟩) hS ?_
    go_simp
    refine rd 6 rfl (fun Kq hK => ?_)
    refine tQ rfl (.tmp 13) (.tmp 18) (.tmp 16) rfl rfl MM.out rfl x (pK x m) (kD x m) (n + 1) rfl rfl GET.out ?_
    intro w5 o5 m5
    have Jh := qh (ax.IK XB.out MM.out o5)
    have QS := qh (BB.out.trans (o5.below (by simp)))
    clear MM
    have MM := qh m5
    clear XB BB o5 m5
    have XB := Jh
    have BB := QS
    clear Jh QS
    refine hK.out _ _ (au.ah XB.out) (fun hS => ?_)
    clear hK Kq
    go_simp
    refine wpAnyH_done (by kernel_rfl) ?_ _
    go_wp2_with fail
    go_roundw
    case rel => exact ⟨j + 1, _, by go_num, HJ.out, MM, CU, BB⟩
    case measure => have := HJ.out; simp [intOf]; omega
  ·have hd : decide ((j : Int) < (l.length : Int)) = false := by simp; omega
   have hjl : j = l.length := by omega
   have CC2 := CC.out
   rw [hjl, List.take_length] at CC2
   have CC3 := qh CC2
   clear CC2
   go_wp2_with fail
   go_ret
   exact ⟨_, m, rfl, HB.out, MM.out, CC3.out, BB.out⟩
end
section
open Go.RowKit
theorem Hu (A : Option Addr) (c : Nat) (l : List WM) (w : World) (hl : aK (aR .u32) 33 w w.heap.size A c l) (hn : l.length ≤ 1000) :
 Calls Tryz.prog 307 #[.slice A l.length c] w fun e w' => e = .returned (.bool (decide l.Nodup)) ∧ Below w.heap.size w w' := by
 have HT := qh (Jr A c l w hl hn)
 obtain ⟨r, hr⟩ : ∃ r, decide l.Nodup = r := ⟨_, rfl⟩
 rw [hr]
 have HR := qh hr
 clear hr hl
 go_enter Tryz.func307, Tryz.ntmps307
 go_wp2_with fail
 refine HT.out.mono ?_
 rintro e w1 ⟨b, m, rfl, hb, hm, hc, b1⟩
 have B1 := qh b1
 have hlen : ∀ ty, (Builtin.len_ #[403] ty #[.map (some b)]).run Tryz.prog w1 = .ok (.int .i64 (m.length : Int)) w1 := fun ty => hm.len Et ty
 have HQ := qh (show ((m.length : Int) == (l.length : Int)) = r by
  rw [← HR.out, Bool.eq_iff_iff, beq_iff_eq, decide_eq_true_iff, ← EK l, ← hc.keys, List.length_map]
  omega)
 clear b1 hm hc hb HT
 go_wp2_with fail
 go_ret
 exact ⟨by rw [← HQ.out]; rfl, B1.out⟩
end
section
open Go.RowKit
theorem Q8 : cZ Tryz.prog 144 (dR .i64) 33 := ⟨by kernel_rfl, fU _, qP _, Tryz.isAgg144⟩
def lD (z : List Int) (j : Nat) : Array Value := (ints (z.take j) ++ List.replicate (z.length - j) (Value.int .i64 0)).toArray
theorem zW (z : List Int) : madeCells #[.int .i64 0] z.length = lD z 0 := by
 apply Array.ext'
 rw [toList_madeCells_one]
 simp [lD, ints]
theorem zX (z : List Int) (j : Nat) (h : j ≤ z.length) : (lD z j).size = z.length := by
 simp [lD, ints]
 omega
theorem Dl (z : List Int) (j : Nat) (h : j < z.length) : (lD z j).setIfInBounds j (.int .i64 z[j]) = lD z (j + 1) := by
 unfold lD
 rw [List.setIfInBounds_toArray]
 congr 1
 have hl : (ints (z.take j)).length = j := by simp [ints]; omega
 obtain ⟨m, hm⟩ : ∃ m, z.length - j = m + 1 := ⟨z.length - j - 1, by omega⟩
 rw [hm, List.set_append_right _ _ (by omega), hl, Nat.sub_self, List.replicate_succ, List.set_cons_zero, List.take_succ_eq_append_getElem h, show z.length - (j + 1) = m by omega]
 unfold ints
 rw [List.map_append, List.append_assoc]
 rfl
theorem Dm (z : List Int) : lD z z.length = (ints z).toArray := by
 simp [lD]
theorem J4 : Qw := by
 intro a w ha hn
 have Wq := qh (show Holds w [(w.heap.size, 92, a.cells.toArray)] (w.alloc (.cells a.cells.toArray 92)) from (Holds.nil w).box 92 a.cells.toArray)
 have IN := qh ha
 obtain ⟨Z, hZ⟩ : ∃ Z, fV a.T = Z := ⟨_, rfl⟩
 have HZ := qh hZ
 have CX := qh (show Z.length = a.T.outs.length by rw [← hZ]; unfold fV; rw [List.length_map])
 have hmk : ∀ W, (Instr.makeSlice 184 (.int .i64 (a.T.outs.length : Int)) (.int .i64 (a.T.outs.length : Int))).run Tryz.prog W = .ok (.slice (some ⟨W.heap.size, 0, none⟩) a.T.outs.length a.T.outs.length) (W.alloc (.cells (lD Z 0) 2)) := fun W => by
  rw [← zW, CX.out]
  exact nZ _ _ _ 8 Tryz.underlying184 Cy rfl (by omega) .i64 .i64 a.T.outs.length (by have := hn.o; omega) W
 have k0 : (w.alloc (.cells a.cells.toArray 92)).cell? ⟨w.heap.size, 2, none⟩ = some (.slice a.Ao a.T.outs.length a.co) := aY.c2 (au.ah (Wq.out.at (x := (w.heap.size, 92, a.cells.toArray)) (by simp)))
 have h0 := Wq.out.alloc (.cells (lD Z 0) 2)
 have HH := qh h0
 have HM := qh (bg (w := (w.alloc (.cells a.cells.toArray 92))) (g := w.heap.size + 1) 2 (lD Z 0) (by simp))
 have k2 : ((w.alloc (.cells a.cells.toArray 92)).alloc (.cells (lD Z 0) 2)).cell? ⟨w.heap.size, 2, none⟩ = some (.slice a.Ao a.T.outs.length a.co) := aY.c2 (au.ah (HH.out.at (x := (w.heap.size, 92, a.cells.toArray)) (by simp)))
 have hm0 : a.T.outs.length ≤ 9223372036854775807 := by have := hn.o; omega
 have HN := qh hn
 clear ha hn hZ h0 Wq
 go_enter Tryz.func208, Tryz.ntmps208
 go_wp2_with fail
 clear hmk k0 k2
 go_loopw [4, 13] (fun _ si wr => ∃ j : Nat, si = .int .i64 j ∧ j ≤ a.T.outs.length ∧ Hid (ax wr (w.heap.size + 1) 2 (lD Z j)) ∧ Hid (Holds w [(w.heap.size, 92, a.cells.toArray)] wr)) (fun _ si _ => a.T.outs.length - (intOf si).toNat)
 case atStart => exact ⟨0, rfl, Nat.zero_le _, HM, HH⟩
 case round =>
  clear HH HM
  obtain ⟨j, rfl, hj, HM, HH⟩ := hrel
  have k2 : wr.cell? ⟨w.heap.size, 2, none⟩ = some (.slice a.Ao a.T.outs.length a.co) := aY.c2 (au.ah (HH.out.at (x := (w.heap.size, 92, a.cells.toArray)) (by simp)))
  by_cases hlt : j < a.T.outs.length
  ·have hd : decide ((j : Int) < (a.T.outs.length : Int)) = true := by simp; omega
   have hi0 : (0 : Int) ≤ (j : Int) := by omega
   have hi1 : (j : Int) < (a.T.outs.length : Int) := by omega
   obtain ⟨g, o, hA, hg, hc⟩ := (IN.out.on HH.out.below (Nat.le_refl _)).outs.at (fU _) hlt
   obtain ⟨x, hx⟩ : ∃ x, a.T.outs[j]'hlt = x := ⟨_, rfl⟩
   rw [hx] at hc
   have HX := qh hc
   have HZJ := qh (show (lD Z j).setIfInBounds j (.int .i64 x.1.1) = lD Z (j + 1) by
    rw [← Dl Z j (by rw [CX.out]; exact hlt)]
    congr 2
    have hz : Z = fV a.T := HZ.out.symm
    subst hz
    simp only [fV, List.getElem_map]
    rw [hx])
   have QW := qh hlt
   have QH := qh (zX Z j (by rw [CX.out]; omega))
   rw [hA] at k2 ⊢
   clear hc hx hg hA
   go_wp2_with (first
    | ((with_reducible refine az 16 ?_); refine Q8.af rfl (.tmp 16) rfl g (o + j * 33) rfl x HX.out ?_)
    | ((with_reducible refine ag 5 17 ?_); refine Q8.aj rfl (.tmp 5) (.tmp 17) rfl rfl wr.heap.size x rfl rfl 144 _ (ax.new wr 144 _) rfl ?_; intro w2 o2 b2
       have BE := ((Below.refl wr.heap.size wr).alloc (Nat.le_refl _) _).trans (o2.below (by simp))
       have M2 := qh (aa BE HM.out HM.out.lt)
       have H2 := qh (HH.out.call BE)
       have KX : w2.cell? ⟨wr.heap.size, 0, none⟩ = some (.int .i64 x.1.1) := au.GR (au.ah b2)
       clear o2 b2 BE HM HH k2
       have HM := M2
       have HH := H2
       clear M2 H2)
    | ((with_reducible refine ag 22 21 ?_); refine aJ rfl 2 (.tmp 22) (.tmp 21) rfl rfl (w.heap.size + 1) j (.int .i64 x.1.1) rfl rfl rfl 2 _ HM.out (by have h1 := QH.out; have h2 := CX.out; have h3 := QW.out; omega) (by kernel_rfl) ?_; intro w3 o3 b3
       rw [HZJ.out] at b3
       have M2 := qh b3
       have H2 := qh (show Holds w [(w.heap.size, 92, a.cells.toArray)] w3 from HH.out.low (o3.below (B := w.heap.size + 1) (by simp)) (by omega) (by simp))
       clear o3 b3 HM HH KX
       have HM := M2
       have HH := H2
       clear M2 H2))
   go_roundw
   case rel => exact ⟨j + 1, by go_num, QW.out, HM, HH⟩
   case measure => have := QW.out; simp [intOf]; omega
  ·have hd : decide ((j : Int) < (a.T.outs.length : Int)) = false := by simp; omega
   have hjl : j = Z.length := by rw [CX.out]; omega
   have h9 := HM.out
   rw [hjl, Dm] at h9
   have R9 := qh (show aK (enc1 .i64) 1 wr wr.heap.size (some ⟨w.heap.size + 1, 0, none⟩) (tu a.T).length (tu a.T) from
    ⟨Nat.le_refl _, by have h1 := vg a.T; have h2 := HN.out.o; unfold maxLen; omega, fun _ => ⟨w.heap.size + 1, 0, rfl, h9.lt, by
     have h8 := au.ah h9
     rw [xJ, HZ.out]
     simpa using h8⟩⟩)
   have HVL := qh (vg a.T)
   clear h9 hjl
   go_wp2_with fail
   go_ret
   rw [← HVL.out]
   exact ⟨_, _, rfl, R9.out, HH.out.below⟩
theorem Hw (a : aY) (w : World) (ha : a.In w w.heap.size) :
 Calls Tryz.prog 256 #[.agg a.cells.toArray, .bool true] w fun e w' => e = .returned (.bool (iL a.T true)) ∧ Below w.heap.size w w' := by
 have HH := qh (show Holds w [(w.heap.size, 92, a.cells.toArray)] (w.alloc (.cells a.cells.toArray 92)) from (Holds.nil w).box 92 a.cells.toArray)
 have IN := qh ha
 obtain ⟨cf, hcf⟩ : ∃ cf, gy a.T = cf := ⟨_, rfl⟩
 have HC := qh (fun W (h : Holds w [(w.heap.size, 92, a.cells.toArray)] W) => zf a W (IN.out.on h.below (Nat.le_refl _)))
 rw [hcf] at HC
 obtain ⟨y, hy⟩ : ∃ y, decide ((0 : Int) < (a.T.av.length : Int)) = y := ⟨_, rfl⟩
 have hy2 : decide (0 < a.T.av.length) = y := by rw [← hy, Bool.eq_iff_iff, decide_eq_true_iff, decide_eq_true_iff]; omega
 have HR := qh (show iL a.T true = (!cf || y) by
  unfold iL
  have : decide (0 < a.T.av.length) = y := by rw [← hy, Bool.eq_iff_iff, decide_eq_true_iff, decide_eq_true_iff]; omega
  rw [this, hcf]
  cases cf <;> simp)
 rw [HR.out]
 clear ha hcf HR
 go_enter Tryz.func256, Tryz.ntmps256
 go_wp2_with ((with_reducible refine az 2 ?_); refine di.af rfl (.tmp 2) rfl w.heap.size 0 rfl a (au.ah (HH.out.at (x := (w.heap.size, 92, a.cells.toArray)) (by simp))) ?_)
 with_reducible refine (HC.out _ HH.out).mono ?_
 rintro e w1 ⟨rfl, bq⟩
 have HQ := qh (HH.out.call bq)
 clear bq HH
 have HH := HQ
 clear HQ
 clear HC
 have k4 : w1.cell? ⟨w.heap.size, 35, none⟩ = some (.slice a.An a.T.av.length a.cn) := aY.c4 (au.ah (HH.out.at (x := (w.heap.size, 92, a.cells.toArray)) (by simp)))
 cases cf with
 | false =>
  clear hy hy2
  go_wp2_with fail
  go_ret
  exact ⟨rfl, HH.out.below⟩
 | true =>
  go_wp2_with fail
  go_ret
  exact ⟨rfl, HH.out.below⟩
theorem Fp (a : aY) (w : World) (hn : iy a.T) :
 Calls Tryz.prog 257 #[.agg a.cells.toArray] w fun e w' => e = .returned (.bool (yC a.T)) ∧ Below w.heap.size w w' := by
 have HH := qh (show Holds w [(w.heap.size, 92, a.cells.toArray)] (w.alloc (.cells a.cells.toArray 92)) from (Holds.nil w).box 92 a.cells.toArray)
 have i1 := hn.i
 have i2 := hn.o
 have i3 := hn.n
 have i4 := hn.t
 have hw1 : IntKind.i64.wrap ((a.T.ins.length : Int) + (a.T.av.length : Int)) = (a.T.ins.length : Int) + (a.T.av.length : Int) := by rw [IntKind.wrap_i64]; omega
 have hw2 : IntKind.i64.wrap ((a.T.outs.length : Int) + (a.T.notes.length : Int)) = (a.T.outs.length : Int) + (a.T.notes.length : Int) := by rw [IntKind.wrap_i64]; omega
 obtain ⟨x1, hx1⟩ : ∃ x, ((a.T.ins.length : Int) + (a.T.av.length : Int) == 0) = x := ⟨_, rfl⟩
 obtain ⟨x2, hx2⟩ : ∃ x, ((a.T.outs.length : Int) + (a.T.notes.length : Int) == 0) = x := ⟨_, rfl⟩
 have HNX := qh (show yC a.T = (x1 || x2) by
  unfold yC
  have h1 : decide (a.T.ins.length + a.T.av.length = 0) = x1 := by rw [← hx1, Bool.eq_iff_iff, decide_eq_true_iff, beq_iff_eq]; omega
  have h2 : decide (a.T.outs.length + a.T.notes.length = 0) = x2 := by rw [← hx2, Bool.eq_iff_iff, decide_eq_true_iff, beq_iff_eq]; omega
  rw [h1, h2])
 rw [HNX.out]
 clear i1 i2 i3 i4 HNX hn
 have k1 : (w.alloc (.cells a.cells.toArray 92)).cell? ⟨w.heap.size, 1, none⟩ = some (.slice a.Ai a.T.ins.length a.ci) := aY.c1 (au.ah (HH.out.at (x := (w.heap.size, 92, a.cells.toArray)) (by simp)))
 have k2 : (w.alloc (.cells a.cells.toArray 92)).cell? ⟨w.heap.size, 2, none⟩ = some (.slice a.Ao a.T.outs.length a.co) := aY.c2 (au.ah (HH.out.at (x := (w.heap.size, 92, a.cells.toArray)) (by simp)))
 have k4 : (w.alloc (.cells a.cells.toArray 92)).cell? ⟨w.heap.size, 35, none⟩ = some (.slice a.An a.T.av.length a.cn) := aY.c4 (au.ah (HH.out.at (x := (w.heap.size, 92, a.cells.toArray)) (by simp)))
 have k5 : (w.alloc (.cells a.cells.toArray 92)).cell? ⟨w.heap.size, 36, none⟩ = some (.slice a.At a.T.notes.length a.ct) := aY.c5 (au.ah (HH.out.at (x := (w.heap.size, 92, a.cells.toArray)) (by simp)))
 go_enter Tryz.func257, Tryz.ntmps257
 cases x1 <;> cases x2 <;> (go_wp2_with fail; go_ret; exact ⟨rfl, HH.out.below⟩)
theorem Lj (a : aY) (w : World) (ha : a.In w w.heap.size) (hn : iy a.T) :
 Calls Tryz.prog 259 #[.agg a.cells.toArray] w fun e w' => e = .returned (.bool (oF a.T)) ∧ Below w.heap.size w w' := by
 have HH := qh (show Holds w [(w.heap.size, 92, a.cells.toArray)] (w.alloc (.cells a.cells.toArray 92)) from (Holds.nil w).box 92 a.cells.toArray)
 have IN := qh ha
 have HN := qh hn
 obtain ⟨mo, hmo⟩ : ∃ mo, oF a.T = mo := ⟨_, rfl⟩
 rw [hmo]
 have HMO := qh hmo
 clear hmo
 have HV := qh (fun W (h : Holds w [(w.heap.size, 92, a.cells.toArray)] W) => J4 a W (IN.out.on h.below (Nat.le_refl _)) HN.out)
 clear ha hn
 go_enter Tryz.func259, Tryz.ntmps259
 go_wp2_with ((with_reducible refine az 1 ?_); refine di.af rfl (.tmp 1) rfl w.heap.size 0 rfl a (au.ah (HH.out.at (x := (w.heap.size, 92, a.cells.toArray)) (by simp))) ?_)
 with_reducible refine (HV.out _ HH.out).mono ?_
 rintro e w1 ⟨A8, c8, rfl, r8, bq⟩
 have HQ := qh (HH.out.call bq)
 clear bq HH
 have HH := HQ
 clear HQ
 clear HV
 have HSU := qh (EF (fV a.T) A8 (tu a.T).length c8 w1.heap.size w1 (by rw [← xJ]; exact r8.reads (PX _)) (Nat.le_refl _) (by have := HN.out.o; have h := vg a.T; unfold maxLen; omega))
 obtain ⟨so, hso⟩ : ∃ so, gI 0 (fV a.T) = so := ⟨_, rfl⟩
 rw [hso] at HSU
 have HMY := qh (show mo = (so.isNone || TJ a.T) by rw [← HMO.out]; unfold oF; rw [hso])
 clear hso r8 HMO
 go_wp2_with fail
 with_reducible refine (HSU.out).mono ?_
 rintro e w2 ⟨rfl, bq⟩
 have HQ := qh (HH.out.call bq)
 clear bq HH
 have HH := HQ
 clear HQ
 clear HSU
 cases so with
 | none =>
  have XR : FV none = 0 := rfl
  have hen : yZ none = 20 := rfl
  unfold mY
  rw [XR, hen]
  clear XR hen
  go_wp2_with fail
  go_ret
  exact ⟨by rw [HMY.out]; rfl, HH.out.below⟩
 | some s0 =>
  have XR : FV (some s0) = s0 := rfl
  have hen : yZ (some s0) = 0 := rfl
  unfold mY
  rw [XR, hen]
  clear XR hen
  have k4 : w2.cell? ⟨w.heap.size, 35, none⟩ = some (.slice a.An a.T.av.length a.cn) := aY.c4 (au.ah (HH.out.at (x := (w.heap.size, 92, a.cells.toArray)) (by simp)))
  have k5 : w2.cell? ⟨w.heap.size, 36, none⟩ = some (.slice a.At a.T.notes.length a.ct) := aY.c5 (au.ah (HH.out.at (x := (w.heap.size, 92, a.cells.toArray)) (by simp)))
  have k6 : w2.cell? ⟨w.heap.size, 37, none⟩ = some (.int .i64 a.T.dW.1) := aY.c6 (au.ah (HH.out.at (x := (w.heap.size, 92, a.cells.toArray)) (by simp)))
  obtain ⟨q1, hq1⟩ : ∃ q, decide (a.T.dW.1 < -2100000000000000) = q := ⟨_, rfl⟩
  obtain ⟨q2, hq2⟩ : ∃ q, decide (2100000000000000 < a.T.dW.1) = q := ⟨_, rfl⟩
  obtain ⟨q3, hq3⟩ : ∃ q, decide (0 < a.T.dW.1) = q := ⟨_, rfl⟩
  obtain ⟨q4, hq4⟩ : ∃ q, decide (a.T.dW.1 < 0) = q := ⟨_, rfl⟩
  obtain ⟨x3, hx3⟩ : ∃ q, ((a.T.av.length : Int) == 0) = q := ⟨_, rfl⟩
  obtain ⟨x4, hx4⟩ : ∃ q, ((a.T.notes.length : Int) == 0) = q := ⟨_, rfl⟩
  have HBF := qh (show mo = (q1 || q2 || (q3 && x3) || (q4 && x4)) by
   rw [HMY.out]
   unfold TJ
   rw [hq1, hq2, hq3, hq4]
   have h3 : decide (a.T.av.length = 0) = x3 := by rw [← hx3, Bool.eq_iff_iff, decide_eq_true_iff, beq_iff_eq]; omega
   have h4 : decide (a.T.notes.length = 0) = x4 := by rw [← hx4, Bool.eq_iff_iff, decide_eq_true_iff, beq_iff_eq]; omega
   rw [h3, h4]
   rfl)
  clear HMY
  cases q1 <;> cases q2 <;> cases q3 <;> cases q4 <;> cases x3 <;> cases x4 <;> (go_wp2_with fail; go_ret; exact ⟨by rw [HBF.out]; rfl, HH.out.below⟩)
end
section
open Go.RowKit
structure WZ where
 f : Nat
 cb : List Value
 e : Int
 v : Bool
def rJ (x : WZ) : List Value := [.func (.func x.f) #[] x.cb.toArray, .int .i64 x.e]
theorem Bf (x : WZ) : (rJ x).length = 2 := rfl
theorem Jo : cu Tryz.prog 291 294 rJ 2 := ⟨Tryz.underlying291, by kernel_rfl, Bf, fun x v hv => by
 simp only [rJ, List.mem_cons, List.not_mem_nil, or_false] at hv
 rcases hv with rfl | rfl <;> rfl, Tryz.isAgg294, by omega⟩
theorem Xg : cZ Tryz.prog 294 rJ 2 := ⟨Jo.size, Jo.len, Jo.one, Jo.agg⟩
def jR (T : dX) (b : Bool) (g : Nat) : List WZ := [⟨257, [], 110, yC T⟩, ⟨255, [.pointer (some ⟨g, 0, none⟩)], 112, iL T b⟩, ⟨258, [], 111, pR T⟩, ⟨259, [], 20, oF T⟩]
def jQ : List WZ → Int
 | [] => 0
 | x :: l => if x.v = true then x.e else jQ l
theorem rG : ∀ (l : List WZ) (j : Nat) (h : j < l.length), (∀ i (hi : i < l.length), i < j → l[i].v = false) → jQ l = if (l[j]).v = true then (l[j]).e else jQ (l.drop (j + 1))
 | [], j, h, _ => absurd h (Nat.not_lt_zero _)
 | x :: l, 0, _, _ => rfl
 | x :: l, j + 1, h, hf => by
  have h0 := hf 0 (by simp) (by omega)
  simp only [List.getElem_cons_zero] at h0
  rw [show jQ (x :: l) = if x.v = true then x.e else jQ l from rfl, h0, if_neg (by decide), rG l j (by simpa using h) (fun i hi hij => by have := hf (i + 1) (by simpa using hi) (by omega); simpa using this)]
  rfl
theorem uK : ∀ (l : List WZ), (∀ i (hi : i < l.length), l[i].v = false) → jQ l = 0
 | [], _ => rfl
 | x :: l, hf => by
  have h0 := hf 0 (by simp)
  simp only [List.getElem_cons_zero] at h0
  rw [show jQ (x :: l) = if x.v = true then x.e else jQ l from rfl, h0, if_neg (by decide)]
  exact uK l fun i hi => by have := hf (i + 1) (by simpa using hi); simpa using this
theorem Fh (T : dX) (b : Bool) (g : Nat) (h : (fA T).2 = 0) : fB T b = jQ (jR T b g) := by
 unfold fB
 rw [if_neg (by rw [h]; simp)]
 rfl
theorem Hf (T : dX) (b : Bool) (w : World) :
 Calls Tryz.prog 199 #[.bool b] w fun e w' => ∃ A c, e = .returned (.slice A 4 c) ∧ aK rJ 2 w' w'.heap.size A c (jR T b w.heap.size) ∧ w'.cell? ⟨w.heap.size, 0, none⟩ = some (.bool b) ∧ Below w.heap.size w w' := by
 have ED : ∀ (fn : Fn) (first cap : Array Value) (w : World), (Instr.makeFunc fn first cap).run Tryz.prog w = .ok (.func fn first cap) w := fun _ _ _ _ => rfl
 have B0 := qh (show ∀ ob, Below w.heap.size w ((w.alloc (.cells #[.bool b] 4)).alloc ob) from fun ob => ((Below.refl w.heap.size w).alloc (Nat.le_refl _) (.cells #[.bool b] 4)).alloc (by simp) ob)
 have K0 := qh ((ax.new w 4 #[.bool b]))
 go_enter Tryz.func199, Tryz.ntmps199
 go_wp2_with (first
  | ((with_reducible refine bW 5 ?_); refine bu rfl 294 #[(0, .func 257), (1, .const (.int .i64 110))] rfl (rJ ⟨257, [], 110, yC T⟩).toArray (by kernel_rfl) ?_)
  | ((with_reducible refine bW 7 ?_); refine bu rfl 294 #[(0, .tmp 6), (1, .const (.int .i64 112))] rfl (rJ ⟨255, [.pointer (some ⟨w.heap.size, 0, none⟩)], 112, iL T b⟩).toArray (by kernel_rfl) ?_)
  | ((with_reducible refine bW 8 ?_); refine bu rfl 294 #[(0, .func 258), (1, .const (.int .i64 111))] rfl (rJ ⟨258, [], 111, pR T⟩).toArray (by kernel_rfl) ?_)
  | ((with_reducible refine bW 9 ?_); refine bu rfl 294 #[(0, .func 259), (1, .const (.int .i64 20))] rfl (rJ ⟨259, [], 20, oF T⟩).toArray (by kernel_rfl) ?_)
  | ((with_reducible refine nA 10 ?_); refine Jo.wpList_build rfl (by kernel_rfl) 4 #[(0, .tmp 5), (1, .tmp 7), (2, .tmp 8), (3, .tmp 9)] rfl (jR T b w.heap.size) rfl (by omega) (by omega) (by kernel_rfl) ?_))
 go_ret
 refine ⟨_, _, rfl, ⟨Nat.le_refl _, by unfold maxLen; omega, fun _ => ⟨w.heap.size + 1, 0, by simp, by simp, ?_⟩⟩, ?_, B0.out _⟩
 ·have := au.ah (bg (w := w.alloc (.cells #[.bool b] 4)) (g := w.heap.size + 1) 294 (cellsOf rJ (jR T b w.heap.size)).toArray (by simp))
  simpa using this
 ·exact (K0.out.alloc _).cell 0
theorem Lp : ∀ args w, (callFunc 257 args).run Tryz.prog w = .ok (.enter 257 args) w := enters_of Tryz.func257 (by kernel_rfl) rfl
theorem Lr : ∀ args w, (callFunc 255 args).run Tryz.prog w = .ok (.enter 255 args) w := enters_of Tryz.func255 (by kernel_rfl) rfl
theorem Lm : ∀ args w, (callFunc 258 args).run Tryz.prog w = .ok (.enter 258 args) w := enters_of Tryz.func258 (by kernel_rfl) rfl
theorem Ll : ∀ args w, (callFunc 259 args).run Tryz.prog w = .ok (.enter 259 args) w := enters_of Tryz.func259 (by kernel_rfl) rfl
theorem Cq (T : dX) (b : Bool) (g : Nat) : ∀ x ∈ jR T b g, ∀ args w, (callFunc x.f args).run Tryz.prog w = .ok (.enter x.f args) w := by
 intro x hx
 simp only [jR, List.mem_cons, List.not_mem_nil, or_false] at hx
 rcases hx with rfl | rfl | rfl | rfl
 ·exact Lp
 ·exact Lr
 ·exact Lm
 ·exact Ll
end
section
open Go.RowKit
theorem Nw (a b : Int) (w : World) : Calls Tryz.prog 261 #[.int .u64 a, .int .u64 b] w fun x w' => x = .returned (.bool (decide (b < a))) ∧ Below w.heap.size w w' := by
 obtain ⟨q, hq⟩ : ∃ q, decide (b < a) = q := ⟨_, rfl⟩
 rw [hq]
 go_enter Tryz.func261, Tryz.ntmps261
 go_wp2
 go_ret
 exact ⟨rfl, Below.refl _ _⟩
theorem VZ (e h : Int) (g : Nat) (v : Bool) (w : World) (eg : ∀ args w, (callFunc g args).run Tryz.prog w = .ok (.enter g args) w) (he : Ev e) (hh : Ev h) (HG : e ≠ 0 → ∀ W, Calls Tryz.prog g #[.int .u64 h, .int .u64 e] W fun x w' => x = .returned (.bool v) ∧ Below W.heap.size W w') : Calls Tryz.prog 260 #[.int .u32 e, .int .u32 h, .func (.func g) #[] #[]] w fun x w' => x = .returned (.tuple #[.bool (decide (e ≠ 0) && v), .bool (decide (e ≠ 0))]) ∧ Below w.heap.size w w' := by
 unfold Ev at he hh
 have h1 : IntKind.u64.wrap e = e := by rw [IntKind.wrap_u64]; omega
 have h2 : IntKind.u64.wrap h = h := by rw [IntKind.wrap_u64]; omega
 by_cases h0 : e = 0
 ·subst h0
  clear HG h1 h2 he hh
  go_enter Tryz.func260, Tryz.ntmps260
  go_wp2
  go_ret2
  exact ⟨rfl, Below.refl _ _⟩
 ·have hn : (e == 0) = false := beq_eq_false_iff_ne.2 h0
  have H1 := qh (HG h0)
  rw [decide_eq_true h0, Bool.true_and]
  clear HG he hh h0
  go_enter Tryz.func260, Tryz.ntmps260
  go_wp2_with fail
  refine (H1.out _).mono ?_
  rintro x w1 ⟨rfl, b1⟩
  go_wp2_with fail
  go_ret2
  exact ⟨rfl, b1⟩
theorem Sg : Wx := by
 intro e h w he hh
 have H1 := qh (fun W => VZ e h 261 (decide (e < h)) W (enters_of Tryz.func261 (by kernel_rfl) rfl) he hh (fun _ V => Nw h e V))
 clear he hh
 unfold EU
 obtain ⟨b, hb⟩ : ∃ b, decide (e ≠ 0) = b := ⟨_, rfl⟩
 obtain ⟨q, hq⟩ : ∃ q, decide (e < h) = q := ⟨_, rfl⟩
 rw [hb, hq]
 rw [hb, hq] at H1
 obtain ⟨v, hv⟩ : ∃ v, (b && q) = v := ⟨_, rfl⟩
 rw [hv]
 rw [hv] at H1
 clear hb hq hv
 go_enter Tryz.func200, Tryz.ntmps200
 go_wp2_with fail
 refine (H1.out _).mono ?_
 rintro x w1 ⟨rfl, b1⟩
 go_wp2_with fail
 go_ret
 exact ⟨rfl, b1⟩
end
section
open Go.RowKit
theorem VR {T : dX} {b : Bool} (h : fB T b = 0) : (wC T).2 = 0 := by
 rcases vO T with ⟨_, _, h2⟩ | ⟨er, he, h1, _⟩
 ·rw [h2]
 ·unfold fB at h
  rw [h1] at h
  rw [if_pos he] at h
  exact absurd h he
theorem jK {g : Nat} {t : TypeId} {rest : List Value} {U : jE} {w : World} (h : ax w g t (U.cells ++ rest).toArray) (i : Nat) (v : Value) (hv : U.cells[i]? = some v) : w.cell? ⟨g, i, none⟩ = some v := by
 rw [h.cell i]
 have hi : i < U.cells.length := (List.getElem?_eq_some_iff.1 hv).1
 simpa [List.getElem?_append_left hi] using hv
theorem xh {rest : List Value} {U : jE} : (U.cells ++ rest).toArray.size = 7 + rest.length := by rw [List.size_toArray, List.length_append, U.len]
theorem BC (U : jE) (rest : List Value) (l : List aD) (A : Option Addr) (c : Nat) : (U.cells ++ rest).toArray.setIfInBounds 1 (.slice A l.length c) = (({ U with W := { U.W with aV := l }, Ac := A, cc := c } : jE).cells ++ rest).toArray := by simp [jE.cells]
theorem wo (U : jE) (rest : List Value) (z : Int) : (U.cells ++ rest).toArray.setIfInBounds 4 (.int .i64 z) = (({ U with W := { U.W with pool := z } } : jE).cells ++ rest).toArray := by simp [jE.cells]
theorem De (U : jE) (rest : List Value) (z : Int) : (U.cells ++ rest).toArray.setIfInBounds 5 (.int .i64 z) = (({ U with W := { U.W with came := z } } : jE).cells ++ rest).toArray := by simp [jE.cells]
def Wi {α : Type} (g : Nat) (A : Option Addr) (l : List α) : Prop := l = [] ∨ ∀ a, A = some a → a.block ≠ g
theorem nI {g lo n k : Nat} {e t : TypeId} {w W : World} {v : Value} {xs : List Value} {cs : Array Value} (h : w.ownsRow lo e k v n xs) (hb : ax w g t cs) (hne : e ≠ t) (p : Past g w W) : W.ownsRow lo e k v n xs :=
 eP h fun b hb' hlt => p.block b hlt fun e' => lJ h hb hne (e' ▸ hb')
theorem Cj {g lo n k : Nat} {e t : TypeId} {w : World} {A : Option Addr} {c : Nat} {xs : List Value} {cs : Array Value} (h : w.ownsRow lo e k (.slice A n c) n xs) (hb : ax w g t cs) (hne : e ≠ t) : ∀ a, A = some a → a.block ≠ g := fun a ha e' => lJ h hb hne (by subst ha; subst e'; rfl)
theorem yg (k : aS) (w : World) : Calls Tryz.prog 202 #[.agg (ak k).toArray, .int .i64 0] w fun e w' => e = .returned (.agg (ak k).toArray) ∧ Below w.heap.size w w' := by
 have B0 := qh (show Below w.heap.size w ((w.alloc (.cells (ak k).toArray 26)).alloc (.cells (ak ai).toArray 26)) from ((Below.refl w.heap.size w).alloc (Nat.le_refl _) _).alloc (by simp) _)
 have K0 := qh (show ax ((w.alloc (.cells (ak k).toArray 26)).alloc (.cells (ak ai).toArray 26)) w.heap.size 26 (ak k).toArray from (ax.new w 26 (ak k).toArray).alloc _)
 have K1 := qh (show ax ((w.alloc (.cells (ak k).toArray 26)).alloc (.cells (ak ai).toArray 26)) (w.heap.size + 1) 26 (ak ai).toArray from bg (g := w.heap.size + 1) 26 (ak ai).toArray (by simp))
 go_enter Tryz.func202, Tryz.ntmps202
 go_wp2_with fail
 refine (qb _).mono ?_
 rintro e w' ⟨rfl, rfl⟩
 go_wp2_with (first
  | ((with_reducible refine az 2 ?_); refine bL.af rfl (.tmp 2) rfl w.heap.size 0 rfl k (au.ah K0.out) ?_)
  | ((with_reducible refine ag 4 7 ?_); refine bL.aj rfl (.tmp 4) (.tmp 7) rfl rfl (w.heap.size + 1) k rfl rfl 26 _ K1.out rfl ?_; intro w7 o7 b7))
 refine bodyPost_ret (aU rfl _ _ (w.heap.size + 1) 26 _ (0, 0) _ rfl b7 Tryz.underlying26 rfl (by rw [List.size_toArray, aC]; kernel_rfl)) rfl ⟨rfl, B0.out.trans (o7.below (by simp))⟩
theorem M5 (g : Nat) (t : TypeId) (rest : List Value) (U : jE) (a : aY) (w : World) (hb : ax w g t (U.cells ++ rest).toArray) (q : Bool) (hq : EU a.T.exp.1 U.W.h.1 = q) :
 Calls Tryz.prog 140 #[.pointer (some ⟨g, 0, none⟩), .agg a.cells.toArray] w fun e w' => (q = false → e = .returned (.tuple #[])) ∧ (q = true → e = .panicked (LX 120)) ∧ Below w.heap.size w w' := by
 have H0 := qh (show Holds w [(w.heap.size, 92, a.cells.toArray)] (w.alloc (.cells a.cells.toArray 92)) from (Holds.nil w).box 92 a.cells.toArray)
 have HX := qh (fun V => hq ▸ Sg a.T.exp.1 U.W.h.1 V (wf_u32.1 a.T.exp.2) (wf_u32.1 U.W.h.2))
 have HB := qh hb
 clear hq hb
 go_enter Tryz.func140, Tryz.ntmps140
 go_wp2_with fail
 refine wp_region_held_drew (S := fun V => Holds w [(w.heap.size, 92, a.cells.toArray)] V ∧ ax V g t (U.cells ++ rest).toArray) (by kernel_rfl) ⟨H0.out.call (Below.refl _ _).drew, aa (Below.refl (w.alloc (.cells a.cells.toArray 92)).heap.size _).drew (HB.out.alloc _) (HB.out.alloc _).lt⟩ ?_
 clear H0 HB
 intro hS
 refine tkp 0 (.pointer (some ⟨w.heap.size, 0, none⟩)) rfl hS ?_
 go_simp
 refine tk 1 (.int .u32 a.T.exp.1) rfl (bJ (by rfl) 24 (.tmp 4) rfl ⟨w.heap.size, 0, none⟩ rfl _ Tryz.isAgg24 (fun _ h => aY.c0 (au.ah (h.1.b (w.heap.size) (92) (a.cells.toArray) (by simp))))) hS ?_
 go_simp
 refine tkp 2 (.pointer (some ⟨g, 0, none⟩)) rfl hS ?_
 go_simp
 refine tkp 3 (.pointer (some ⟨g, 0, none⟩)) rfl hS ?_
 go_simp
 refine tkp 4 (.pointer (some ⟨g, 0, none⟩)) rfl hS ?_
 go_simp
 refine tk 5 (.int .u32 U.W.h.1) rfl (bJ (by rfl) 24 (.tmp 8) rfl ⟨g, 0, none⟩ rfl _ Tryz.isAgg24 (fun _ h => jK h.2 0 _ rfl)) hS ?_
 go_simp
 refine rd 6 rfl (fun Kq hK => ?_)
 go_simp
 with_reducible refine (HX.out _).mono ?_
 rintro e x1 ⟨rfl, b1⟩
 refine hK.out _ _ ⟨hS.1.call b1, aa b1 hS.2 hS.2.lt⟩ (fun hS => ?_)
 clear hK Kq b1
 go_simp
 refine tkp 7 (.bool (!q)) rfl hS ?_
 go_simp
 cases q with
 | false =>
  simp only [Bool.not_false]
  refine rd 8 rfl (fun Kq hK => ?_)
  go_simp
  with_reducible refine (jX 120 _).mono ?_
  rintro e x2 ⟨rfl, rfl⟩
  refine hK.out _ _ hS (fun hS => ?_)
  clear hK Kq
  refine wpAnyH_done (by kernel_rfl) ?_ _
  go_wp2_with fail
  exact ⟨rfl, .tuple #[], by simp [results, Tryz.results140], rfl, hS.1.below⟩
 | true =>
  simp only [Bool.not_true]
  refine rd 8 rfl (fun Kq hK => ?_)
  go_simp
  with_reducible refine (jG 120 _).mono ?_
  rintro e x2 ⟨rfl, rfl⟩
  exact ⟨rfl, (fun h => Bool.noConfusion h), (fun _ => rfl), hS.1.below⟩
def FM (g : Nat) (t : TypeId) (rest : List Value) (U : jE) (w : World) (x : Option (Int × Int)) (e : Ending) (w' : World) : Prop :=
 Past g w w' ∧ match x with
  | none => e = .panicked (LX 167)
  | some y => e = .returned (.tuple #[]) ∧ ax w' g t (({ U with W := { U.W with pool := y.1, came := y.2 } } : jE).cells ++ rest).toArray
theorem Nc (g : Nat) (t : TypeId) (rest : List Value) (U : jE) (dW : Int) (w : World) (hb : ax w g t (U.cells ++ rest).toArray) (Pq : -9223372036854775808 < dW ∧ dW ≤ 9223372036854775807) :
 Calls Tryz.prog 209 #[.pointer (some ⟨g, 0, none⟩), .int .i64 dW] w (FM g t rest U w (rY U.W.pool U.W.came dW)) := by
 obtain ⟨X, hX⟩ : ∃ X, rY U.W.pool U.W.came dW = X := ⟨_, rfl⟩
 rw [hX]
 by_cases h0 : 0 < dW
 ·have hd : decide ((0 : Int) < dW) = true := decide_eq_true h0
  clear Pq
  have k4 : w.cell? ⟨g, 4, none⟩ = some (.int .i64 U.W.pool) := jK hb 4 _ rfl
  obtain ⟨o, ho⟩ : ∃ o, rX U.W.pool dW = o := ⟨_, rfl⟩
  have HO := qh (fun V => ho ▸ Ri U.W.pool dW V)
  have HX := qh (show X = o.map (fun n => (n, U.W.came)) from hX.symm.trans (by unfold rY; rw [if_pos h0, ho]))
  have HB := qh hb
  clear hb hX ho h0
  go_enter Tryz.func209, Tryz.ntmps209
  go_wp2_with fail
  clear k4
  refine (HO.out _).mono ?_
  rintro e w1 ⟨rfl, b1⟩
  have P1 := qh (Past.of_below (g := g) b1)
  have B1 := qh (aa b1 HB.out HB.out.lt)
  clear b1 HO
  cases o with
  | none =>
   have hv0 : mY none = .tuple #[.int .i64 0, .int .i64 20] := rfl
   rw [hv0]
   clear hv0
   go_wp2_with fail
   refine (qa 0 20 (by decide) _).mono ?_
   rintro e w2 ⟨rfl, rfl⟩
   have hx := HX.out
   subst hx
   exact ⟨rfl, P1.out, rfl⟩
  | some n =>
   have hv0 : mY (some n) = .tuple #[.int .i64 n, .int .i64 0] := rfl
   rw [hv0]
   clear hv0
   go_wp2_with fail
   refine (sj n _).mono ?_
   rintro e w2 ⟨rfl, rfl⟩
   go_wp2_with ((with_reducible refine ag 17 15 ?_); refine aJ rfl 2 (.tmp 17) (.tmp 15) rfl rfl g 4 (.int .i64 n) rfl rfl rfl t _ B1.out (by rw [xh]; omega) (by kernel_rfl) ?_; intro w9 o9 b9)
   have hx := HX.out
   subst hx
   rw [wo] at b9
   exact ⟨rfl, .tuple #[], by simp [results, Tryz.results209], P1.out.trans (Past.kM o9), rfl, b9⟩
 ·have hd : decide ((0 : Int) < dW) = false := decide_eq_false h0
  have hwb : IntKind.i64.wrap (-dW) = -dW := by rw [IntKind.wrap_i64]; omega
  clear Pq
  have k5 : w.cell? ⟨g, 5, none⟩ = some (.int .i64 U.W.came) := jK hb 5 _ rfl
  obtain ⟨o, ho⟩ : ∃ o, aaX U.W.came (-dW) = o := ⟨_, rfl⟩
  have HO := qh (fun V => ho ▸ Jf U.W.came (-dW) V)
  have HX := qh (show X = o.map (fun n => (U.W.pool, n)) from hX.symm.trans (by unfold rY; rw [if_neg h0, ho]))
  have HB := qh hb
  clear hb hX ho h0
  go_enter Tryz.func209, Tryz.ntmps209
  go_wp2_with fail
  clear k5
  refine (HO.out _).mono ?_
  rintro e w1 ⟨rfl, b1⟩
  have P1 := qh (Past.of_below (g := g) b1)
  have B1 := qh (aa b1 HB.out HB.out.lt)
  clear b1 HO
  cases o with
  | none =>
   have hv0 : mY none = .tuple #[.int .i64 0, .int .i64 20] := rfl
   rw [hv0]
   clear hv0
   go_wp2_with fail
   refine (qa 0 20 (by decide) _).mono ?_
   rintro e w2 ⟨rfl, rfl⟩
   have hx := HX.out
   subst hx
   exact ⟨rfl, P1.out, rfl⟩
  | some n =>
   have hv0 : mY (some n) = .tuple #[.int .i64 n, .int .i64 0] := rfl
   rw [hv0]
   clear hv0
   go_wp2_with fail
   refine (sj n _).mono ?_
   rintro e w2 ⟨rfl, rfl⟩
   go_wp2_with ((with_reducible refine ag 30 28 ?_); refine aJ rfl 2 (.tmp 30) (.tmp 28) rfl rfl g 5 (.int .i64 n) rfl rfl rfl t _ B1.out (by rw [xh]; omega) (by kernel_rfl) ?_; intro w9 o9 b9)
   have hx := HX.out
   subst hx
   rw [De] at b9
   exact ⟨rfl, .tuple #[], by simp [results, Tryz.results209], P1.out.trans (Past.kM o9), rfl, b9⟩
end
section
open Go.RowKit
def FN (g : Nat) (t : TypeId) (rest : List Value) (U : jE) (w : World) (x : Except Int (List aD × List aD)) (e : Ending) (w' : World) : Prop :=
 Past g w w' ∧ match x with
  | .error z => e = .panicked (LX z)
  | .ok y => ∃ A1 c1 A2 c2, e = .returned (.slice A2 y.2.length c2) ∧ ax w' g t (({ U with W := { U.W with aV := y.1 }, Ac := A1, cc := c1 } : jE).cells ++ rest).toArray ∧ w'.ownsRow w.heap.size 317 68 (.slice A1 y.1.length c1) y.1.length (cellsOf aX y.1) ∧ w'.ownsRow w.heap.size 317 68 (.slice A2 y.2.length c2) y.2.length (cellsOf aX y.2)
structure Y8 (w : World) (g : Nat) (t : TypeId) (cs : Array Value) (a : aY) (V : World) : Prop where
 hh : Holds w [(w.heap.size, 92, a.cells.toArray)] V
 bb : ax V g t cs
theorem Y8.call {w V V' : World} {g : Nat} {t : TypeId} {cs : Array Value} {a : aY} (h : Y8 w g t cs a V) (b : Below V.heap.size V V') : Y8 w g t cs a V' := ⟨h.hh.call b, aa b h.bb h.bb.lt⟩
end
section
open Go.RowKit
def Mg (n : Int) : Prop := -9223372036854775808 ≤ n ∧ n ≤ 9223372036854775807
def TY : Prop := ∀ (id : aS) (n : Int) (w : World), Mg n → Calls Tryz.prog 98 #[.agg (ak id).toArray, .int .i64 n] w fun e w' => ∃ A c, e = .returned (.slice A (jq id n).length c) ∧ aK gu 34 w' w'.heap.size A c (jq id n) ∧ Below w.heap.size w w'
def QA : Prop := ∀ (a : aY) (w : World), a.In w w.heap.size → Calls Tryz.prog 99 #[.agg a.cells.toArray] w fun e w' => e = .returned (.int .i64 (gP a.T)) ∧ Below w.heap.size w w'
end
section
open Go.RowKit
theorem Nt : QA := by
 intro a w ha
 have hb : au (w.alloc (.cells a.cells.toArray 92)) w.heap.size 0 a.cells := au.ah (ax.new _ _ _)
 have c1 := aY.c1 hb
 have c4 := aY.c4 hb
 have c5 := aY.c5 hb
 obtain ⟨r, hr⟩ : ∃ r, gP a.T = r := ⟨_, rfl⟩
 rw [hr]
 have HR := qh hr
 clear hb hr ha
 go_enter Tryz.func99, Tryz.ntmps99
 go_wp2_with fail
 go_ret
 exact ⟨by rw [← HR.out]; rfl, (Below.refl _ _).alloc (Nat.le_refl _) _⟩
def jh : rM := ⟨ai, QT 0, false⟩
theorem Pw (id : aS) (n j : Nat) (h : j < n) : (mM id j ++ List.replicate (n - j) jh).set j ⟨id, QT j, true⟩ = mM id (j + 1) ++ List.replicate (n - (j + 1)) jh := by
 obtain ⟨m, rfl⟩ : ∃ m, n = j + 1 + m := ⟨n - (j + 1), by omega⟩
 rw [show j + 1 + m - j = m + 1 by omega, show j + 1 + m - (j + 1) = m by omega, List.set_append_right _ _ (by rw [lu]; omega), lu, Nat.sub_self, List.replicate_succ, List.set_cons_zero, ← GY, List.append_assoc]
 rfl
theorem ZQ : ∃ zv : Value, (Tryz.prog.info? 243).map (fun i => (i.zero, i.bytes)) = some (some zv, 48) ∧ zv.cells = (gu jh).toArray :=
 ⟨.agg (gu jh).toArray, by kernel_rfl, rfl⟩
theorem Sc : TY := by
 intro id n w hv
 obtain ⟨X, hX⟩ : ∃ X, jq id n = X := ⟨_, rfl⟩
 rw [hX]
 have HX := qh hX
 have H0 := qh (show Holds w [(w.heap.size, 26, (ak id).toArray)] (w.alloc (.cells (ak id).toArray 26)) from (Holds.nil w).box 26 (ak id).toArray)
 clear hX
 by_cases hb : n < 0
 ·have hd : decide (n < (0 : Int)) = true := decide_eq_true hb
  have HE := qh (show X = [] by rw [← HX.out]; unfold jq; rw [if_neg (by omega), show n.toNat = 0 by omega]; rfl)
  clear hb
  go_enter Tryz.func98, Tryz.ntmps98
  go_wp2_with fail
  go_ret
  have hx := HE.out
  subst hx
  exact ⟨none, 0, rfl, aK.nil (Nat.zero_le _), H0.out.below⟩
 by_cases hc : (1000 : Int) < n
 ·have hd : decide (n < (0 : Int)) = false := decide_eq_false hb
  have hd2 : decide ((1000 : Int) < n) = true := decide_eq_true hc
  have HE := qh (show X = [] by rw [← HX.out]; unfold jq; rw [if_pos hc])
  clear hb hc
  go_enter Tryz.func98, Tryz.ntmps98
  go_wp2_with fail
  go_ret
  have hx := HE.out
  subst hx
  exact ⟨none, 0, rfl, aK.nil (Nat.zero_le _), H0.out.below⟩
 have hd : decide (n < (0 : Int)) = false := decide_eq_false hb
 have hd2 : decide ((1000 : Int) < n) = false := decide_eq_false hc
 have HE := qh (show X = mM id n.toNat by rw [← HX.out]; unfold jq; rw [if_neg hc])
 obtain ⟨m, rfl⟩ : ∃ m : Nat, (m : Int) = n := ⟨n.toNat, by omega⟩
 obtain ⟨zv, hz1, hz2⟩ := ZQ
 have hmk : ∀ W, (Instr.makeSlice 77 (.int .i64 (m : Int)) (.int .i64 (m : Int))).run Tryz.prog W = .ok (.slice (some ⟨W.heap.size, 0, none⟩) m m) (W.alloc (.cells (cellsOf gu (List.replicate m jh)).toArray 243)) := fun W => U3.made W jh zv 48 hz1 hz2 (by omega) .i64 .i64 m (by omega)
 have hm : m ≤ 1000 := by omega
 have HM := qh hm
 have H1 := qh (show Holds w [(w.heap.size + 1, 243, (cellsOf gu (mM id 0 ++ List.replicate (m - 0) jh)).toArray), (w.heap.size, 26, (ak id).toArray)] ((w.alloc (.cells (ak id).toArray 26)).alloc (.cells (cellsOf gu (List.replicate m jh)).toArray 243)) from by
  have := H0.out.box 243 (cellsOf gu (List.replicate m jh)).toArray
  rw [show mM id 0 ++ List.replicate (m - 0) jh = List.replicate m jh from rfl]
  simpa only [World.size_alloc, Nat.add_assoc] using this)
 clear hz1 hz2 hb hc H0 hv
 go_enter Tryz.func98, Tryz.ntmps98
 go_wp2_with fail
 clear hmk
 go_loopw [6, 17] (fun _ si wr => ∃ j : Nat, si = .int .i64 j ∧ j ≤ m ∧ Hid (Holds w [(w.heap.size + 1, 243, (cellsOf gu (mM id j ++ List.replicate (m - j) jh)).toArray), (w.heap.size, 26, (ak id).toArray)] wr)) (fun _ si _ => m - (intOf si).toNat)
 case atStart => exact ⟨0, rfl, Nat.zero_le _, H1⟩
 case round =>
  clear H1
  obtain ⟨j, rfl, hj, HB⟩ := hrel
  by_cases hlt : j < m
  ·have hd : decide ((j : Int) < (m : Int)) = true := by simp; omega
   have hd3 : decide (j < m) = true := decide_eq_true hlt
   have hi0 : (0 : Int) ≤ (j : Int) := by omega
   have hi1 : (j : Int) < (m : Int) := by omega
   have HV := qh (show (QT j).1 = (j : Int) from Q6 (by omega))
   have HJ := qh hlt
   have HT := qh (U2 243 (.inr rfl) id (QT j) true)
   go_wp2_with (first
    | ((with_reducible refine az 2 ?_); refine bL.af rfl (.tmp 2) rfl w.heap.size 0 rfl id (au.ah (HB.out.at (x := (w.heap.size, 26, (ak id).toArray)) (by simp))) ?_)
    | ((with_reducible refine bW 24 ?_); refine bu rfl 243 #[(0, .tmp 22), (1, .tmp 23), (2, .const (.bool true))] rfl (gu ⟨id, QT j, true⟩).toArray ((congrArg (Tryz.prog.built 243) ((show _ = [(0, Value.agg (ak id).toArray), (1, Value.int .i64 (j : Int)), (2, Value.bool true)] by kernel_rfl).trans (congrArg (fun z => [(0, Value.agg (ak id).toArray), (1, Value.int .i64 z), (2, Value.bool true)]) HV.out.symm))).trans HT.out) ?_)
    | ((with_reducible refine ag 25 24 ?_); refine U3.aj rfl (.tmp 25) (.tmp 24) rfl rfl (w.heap.size + 1) j ⟨id, QT j, true⟩ (by first | rfl | (simp only [Nat.zero_add]; rfl)) rfl 243 _ (HB.out.at (x := (w.heap.size + 1, 243, (cellsOf gu (mM id j ++ List.replicate (m - j) jh)).toArray)) (by simp)) (by rw [List.length_append, lu, List.length_replicate]; have := HJ.out; omega) ?_; intro w3 o3 b3
       rw [Pw id m j HJ.out] at b3
       have H3 := qh (HB.out.turn o3 b3 (by omega) (by simp))
       clear b3 o3))
   go_roundw
   case rel => exact ⟨j + 1, by go_num, HJ.out, H3⟩
   case measure => have := HJ.out; simp [intOf]; omega
  ·have hd : decide ((j : Int) < (m : Int)) = false := by simp; omega
   have hd3 : decide (j < m) = false := decide_eq_false hlt
   obtain rfl : j = m := by omega
   go_wp2_with fail
   go_ret
   have hx := HE.out
   rw [Int.toNat_natCast] at hx
   subst hx
   have hB := HB.out.at (x := (w.heap.size + 1, 243, (cellsOf gu (mM id j ++ List.replicate (j - j) jh)).toArray)) (by simp)
   rw [Nat.sub_self, List.replicate_zero, List.append_nil] at hB
   exact ⟨some ⟨w.heap.size + 1, 0, none⟩, j, by rw [lu]; rfl, ⟨by rw [lu]; exact Nat.le_refl _, by have := HM.out; unfold maxLen; omega, fun _ => ⟨_, _, rfl, hB.lt, au.ah hB⟩⟩, HB.out.below⟩
end
section
open Go.RowKit
theorem Pt (g : Nat) (k x : aS) (W : World) (hk : ax W g 26 (ak k).toArray) :
 Calls Tryz.prog 24 #[.agg (ay x.1), .pointer (some ⟨g, 0, none⟩)] W fun e w' => e = .returned (.bool (decide (x = k))) ∧ Below W.heap.size W w' := by
 rw [← sM]
 have K0 := qh (hk.alloc (.cells (ak x).toArray 26))
 have X0 := qh (ax.new W 26 (ak x).toArray)
 obtain ⟨q, hq⟩ : ∃ q, decide (x = k) = q := ⟨_, rfl⟩
 have HQ := qh hq
 rw [hq]
 clear hk hq
 go_enter Tryz.func24, Tryz.ntmps24
 go_wp2_with (first
  | ((with_reducible refine az 2 ?_); refine bL.af rfl (.tmp 2) rfl W.heap.size 0 rfl x (au.ah X0.out) ?_)
  | ((with_reducible refine az 1 ?_); refine bL.af rfl (.tmp 1) rfl g 0 rfl k (au.ah K0.out) ?_)
  | ((with_reducible refine xB 4 5 ?_); refine iZ (by rfl) 26 26 (.tmp 4) (.tmp 5) rfl (ak x).toArray (ak k).toArray rfl rfl (by kernel_rfl) q (fun V => (jw _ _ V).trans (by rw [HQ.out])) ?_))
 go_ret
 exact ⟨rfl, (Below.refl _ _).alloc (Nat.le_refl _) _⟩
theorem Tm : ∀ args w, (callFunc 24 args).run Tryz.prog w = .ok (.enter 24 args) w := enters_of Tryz.func24 (by kernel_rfl) rfl
theorem Nu : YF := by
 intro A c l k w hn hl
 have hr : EE l k = (bU 4 l).any fun x => decide (x = k) := by
  unfold EE
  rw [Bool.eq_iff_iff, decide_eq_true_iff, List.any_eq_true]
  exact ⟨fun h => ⟨k, h, by simp⟩, fun ⟨x, h, e⟩ => of_decide_eq_true e ▸ h⟩
 rw [hr]
 have HC := qh (fun W (hb : Below w.heap.size w W) (hk : ax W (w.heap.size + 1) 26 (ak k).toArray) =>
  vV (tailA 4 A l) (bU 4 l).length (bU 4 l) w.heap.size W (by rw [lq]; omega) hb.size (xN (hl.below hb)) 24 #[.pointer (some ⟨w.heap.size + 1, 0, none⟩)] (fun x => decide (x = k)) Tm
   (fun x W' hb' => Pt (w.heap.size + 1) k x W' (aa hb' hk hk.lt)))
 have HT := qh (fun W => Jt A c l W (by omega) hl.le)
 obtain ⟨r, hr2⟩ : ∃ r, ((bU 4 l).any fun x => decide (x = k)) = r := ⟨_, rfl⟩
 rw [hr2] at HC ⊢
 obtain ⟨n4, hn4⟩ : ∃ n4, (bU 4 l).length = n4 := ⟨_, rfl⟩
 rw [hn4] at HC HT
 have B0 := qh (show Below w.heap.size w ((w.alloc (.cells #[.slice A l.length c] 35)).alloc (.cells (ak k).toArray 26)) from ((Below.refl w.heap.size w).alloc (Nat.le_refl _) _).alloc (by simp) _)
 have K0 := qh (show ax ((w.alloc (.cells #[.slice A l.length c] 35)).alloc (.cells (ak k).toArray 26)) (w.heap.size + 1) 26 (ak k).toArray from bg (g := w.heap.size + 1) 26 (ak k).toArray (by simp))
 clear hr hr2 hn4 hl hn
 go_enter Tryz.func11, Tryz.ntmps11
 go_wp2_with fail
 with_reducible refine (HT.out _).mono ?_
 rintro e w2 ⟨rfl, rfl⟩
 go_wp2_with fail
 with_reducible refine (HC.out _ B0.out K0.out).mono ?_
 rintro e w2 ⟨rfl, b2⟩
 have B2 := qh (B0.out.trans (b2.mono B0.out.size))
 clear b2
 go_wp2_with fail
 go_ret
 exact ⟨rfl, B2.out⟩
end
section
open Go.RowKit
structure YA (g : Nat) (U : jE) (w : World) : Prop where
 aV : aK aX 68 w w.heap.size U.Ac U.cc U.W.aV
 av : aK ak 32 w w.heap.size U.An U.cn U.W.av
 ring : aK ak 32 w w.heap.size U.Ar U.cr U.W.ring
 oc : Wi g U.Ac U.W.aV
 on : Wi g U.An U.W.av
 or : Wi g U.Ar U.W.ring
structure FT (w : World) (g : Nat) (t : TypeId) (cs : Array Value) (a : aY) (V : World) : Prop where
 past : Past g w V
 box : ax V w.heap.size 92 a.cells.toArray
 bb : ax V g t cs
section
variable {w V V' : World} {g : Nat} {t : TypeId} {cs cs' : Array Value} {a : aY}
theorem FT.call (h : FT w g t cs a V) (b : Below V.heap.size V V') : FT w g t cs a V' := ⟨h.past.trans (Past.of_below b), aa b h.box h.box.lt, aa b h.bb h.bb.lt⟩
theorem FT.turn (h : FT w g t cs a V) (p : Past g V V') (b : ax V' g t cs') (hg : g < w.heap.size) : FT w g t cs' a V' := ⟨h.past.trans p, p.blk h.box (by omega), b⟩
theorem FT.cell (h : FT w g t cs a V) : au V w.heap.size 0 a.cells := au.ah h.box
end
theorem aY.In.Ec {a : aY} {w V : World} {g : Nat} (h : a.In w g) (p : Past g w V) (hg : g ≤ w.heap.size) : a.In V V.heap.size := (h.below (p.below (Nat.le_refl _) hg)).more (Nat.le_trans hg p.size)
end
section
open Go.RowKit
theorem J3 : ∀ (a : aY) (w : World), a.In w w.heap.size → iy a.T → Calls Tryz.prog 208 #[.agg a.cells.toArray] w fun e w' => ∃ A c, e = .returned (.slice A (fV a.T).length c) ∧ w'.ownsRow w.heap.size 2 1 (.slice A (fV a.T).length c) (fV a.T).length (ints (fV a.T)) ∧ Below w.heap.size w w' := by
 intro a w ha hn
 have Wq := qh (show Holds w [(w.heap.size, 92, a.cells.toArray)] (w.alloc (.cells a.cells.toArray 92)) from (Holds.nil w).box 92 a.cells.toArray)
 have IN := qh ha
 obtain ⟨Z, hZ⟩ : ∃ Z, fV a.T = Z := ⟨_, rfl⟩
 have HZ := qh hZ
 have CX := qh (show Z.length = a.T.outs.length by rw [← hZ]; unfold fV; rw [List.length_map])
 have hmk : ∀ W, (Instr.makeSlice 184 (.int .i64 (a.T.outs.length : Int)) (.int .i64 (a.T.outs.length : Int))).run Tryz.prog W = .ok (.slice (some ⟨W.heap.size, 0, none⟩) a.T.outs.length a.T.outs.length) (W.alloc (.cells (lD Z 0) 2)) := fun W => by
  rw [← zW, CX.out]
  exact nZ _ _ _ 8 Tryz.underlying184 Cy rfl (by omega) .i64 .i64 a.T.outs.length (by have := hn.o; omega) W
 have k0 : (w.alloc (.cells a.cells.toArray 92)).cell? ⟨w.heap.size, 2, none⟩ = some (.slice a.Ao a.T.outs.length a.co) := aY.c2 (au.ah (Wq.out.b (w.heap.size) (92) (a.cells.toArray) (by simp)))
 have h0 := Wq.out.alloc (.cells (lD Z 0) 2)
 have HH := qh h0
 have HM := qh (bg (w := (w.alloc (.cells a.cells.toArray 92))) (g := w.heap.size + 1) 2 (lD Z 0) (by simp))
 have k2 : ((w.alloc (.cells a.cells.toArray 92)).alloc (.cells (lD Z 0) 2)).cell? ⟨w.heap.size, 2, none⟩ = some (.slice a.Ao a.T.outs.length a.co) := aY.c2 (au.ah (HH.out.b (w.heap.size) (92) (a.cells.toArray) (by simp)))
 have hm0 : a.T.outs.length ≤ 9223372036854775807 := by have := hn.o; omega
 have HN := qh hn
 clear ha hn hZ h0 Wq
 go_enter Tryz.func208, Tryz.ntmps208
 go_wp2_with fail
 clear hmk k0 k2
 go_loopw [4, 13] (fun _ si wr => ∃ j : Nat, si = .int .i64 j ∧ j ≤ a.T.outs.length ∧ Hid (ax wr (w.heap.size + 1) 2 (lD Z j)) ∧ Hid (Holds w [(w.heap.size, 92, a.cells.toArray)] wr)) (fun _ si _ => a.T.outs.length - (intOf si).toNat)
 case atStart => exact ⟨0, rfl, Nat.zero_le _, HM, HH⟩
 case round =>
  clear HH HM
  obtain ⟨j, rfl, hj, HM, HH⟩ := hrel
  have k2 : wr.cell? ⟨w.heap.size, 2, none⟩ = some (.slice a.Ao a.T.outs.length a.co) := aY.c2 (au.ah (HH.out.b (w.heap.size) (92) (a.cells.toArray) (by simp)))
  by_cases hlt : j < a.T.outs.length
  ·have hd : decide ((j : Int) < (a.T.outs.length : Int)) = true := by simp; omega
   have hi0 : (0 : Int) ≤ (j : Int) := by omega
   have hi1 : (j : Int) < (a.T.outs.length : Int) := by omega
   obtain ⟨g, o, hA, hg, hc⟩ := (IN.out.on HH.out.below (Nat.le_refl _)).outs.at (fU _) hlt
   obtain ⟨x, hx⟩ : ∃ x, a.T.outs[j]'hlt = x := ⟨_, rfl⟩
   rw [hx] at hc
   have HX := qh hc
   have HZJ := qh (show (lD Z j).setIfInBounds j (.int .i64 x.1.1) = lD Z (j + 1) by
    rw [← Dl Z j (by rw [CX.out]; exact hlt)]
    congr 2
    have hz : Z = fV a.T := HZ.out.symm
    subst hz
    simp only [fV, List.getElem_map]
    rw [hx])
   have QW := qh hlt
   have QH := qh (zX Z j (by rw [CX.out]; omega))
   rw [hA] at k2 ⊢
   clear hc hx hg hA
   go_wp2_with (first
    | ((with_reducible refine az 16 ?_); refine Q8.af rfl (.tmp 16) rfl g (o + j * 33) rfl x HX.out ?_)
    | ((with_reducible refine ag 5 17 ?_); refine Q8.aj rfl (.tmp 5) (.tmp 17) rfl rfl wr.heap.size x rfl rfl 144 _ (ax.new wr 144 _) rfl ?_; intro w2 o2 b2
       have BE := ((Below.refl wr.heap.size wr).alloc (Nat.le_refl _) _).trans (o2.below (by simp))
       have M2 := qh (aa BE HM.out HM.out.lt)
       have H2 := qh (HH.out.call BE)
       have KX : w2.cell? ⟨wr.heap.size, 0, none⟩ = some (.int .i64 x.1.1) := au.GR (au.ah b2)
       clear o2 b2 BE HM HH k2
       have HM := M2
       have HH := H2
       clear M2 H2)
    | ((with_reducible refine ag 22 21 ?_); refine aJ rfl 2 (.tmp 22) (.tmp 21) rfl rfl (w.heap.size + 1) j (.int .i64 x.1.1) rfl rfl rfl 2 _ HM.out (by have h1 := QH.out; have h2 := CX.out; have h3 := QW.out; omega) (by kernel_rfl) ?_; intro w3 o3 b3
       rw [HZJ.out] at b3
       have M2 := qh b3
       have H2 := qh (show Holds w [(w.heap.size, 92, a.cells.toArray)] w3 from HH.out.low (o3.below (B := w.heap.size + 1) (by simp)) (by omega) (by simp))
       clear o3 b3 HM HH KX
       have HM := M2
       have HH := H2
       clear M2 H2))
   go_roundw
   case rel => exact ⟨j + 1, by go_num, QW.out, HM, HH⟩
   case measure => have := QW.out; simp [intOf]; omega
  ·have hd : decide ((j : Int) < (a.T.outs.length : Int)) = false := by simp; omega
   have hjl : j = Z.length := by rw [CX.out]; omega
   have h9 := HM.out
   rw [hjl, Dm] at h9
   have R9 := qh (show wr.ownsRow w.heap.size 2 1 (.slice (some ⟨w.heap.size + 1, 0, none⟩) Z.length Z.length) Z.length (ints Z) from
    ⟨by rw [uF, Nat.mul_one], .inr ⟨w.heap.size + 1, Z.length, _, rfl, by omega, h9, Nat.le_refl _, by have h1 := CX.out; have h2 := HN.out.o; unfold maxLen; omega, by simp [ints], by rw [List.take_of_length_le] <;> simp [ints]⟩⟩)
   have HVL := qh CX.out
   clear h9 hjl
   go_wp2_with fail
   go_ret
   rw [← HVL.out]
   have hz := HZ.out
   subst hz
   exact ⟨_, _, rfl, R9.out, HH.out.below⟩
def zG (c : Option Int) (f : Int) : Option Int → Except Int Int
 | none => .error 167
 | some p => if c = some (5000000 + f) then .ok p else .error 165
def Rj (c : Option Int) (f : Int) : Option (Int × Int) → Except Int Int
 | none => .error 167
 | some s => zG c f (aaX s.1 s.2)
def jM (W : zu) (T : dX) : Except Int Int := Rj (lW T) W.jv (rY W.pool W.came T.dW.1)
theorem uQ (W : zu) (T : dX) : jH W T = match iH W.aV T (wC T).1 W.h with
 | .error e => .error e
 | .ok y => match jM W T with
  | .error e => .error e
  | .ok p => .ok (y.1, p) := by
 unfold jH jM Rj zG
 cases iH W.aV T (wC T).1 W.h with
 | error e => rfl
 | ok y =>
  cases rY W.pool W.came T.dW.1 with
  | none => rfl
  | some s =>
   simp only
   cases aaX s.1 s.2 with
   | none => rfl
   | some p =>
    simp only
    by_cases h : lW T = some (5000000 + W.jv)
    ·rw [if_pos h, if_pos h]
    ·rw [if_neg h, if_neg h]
theorem Lh (T : dX) : gI 0 (fV T ++ [-T.dW.1]) = lW T := by
 unfold lW
 rw [mE]
 cases gI 0 (fV T) with
 | none => rfl
 | some s => simp only [Option.bind_some]; unfold gI; cases aaX s (-T.dW.1) <;> rfl
def Bw (g : Nat) (t : TypeId) (rest : List Value) (U : jE) (w : World) (x : Except Int Int) (e : Ending) (w' : World) : Prop :=
 Past g w w' ∧ match x with
  | .error z => e = .panicked (LX z)
  | .ok p => e = .returned (.tuple #[]) ∧ ∃ cm, ax w' g t (({ U with W := { U.W with pool := p, came := cm } } : jE).cells ++ rest).toArray
theorem FT.low {w V V' : World} {g B : Nat} {t : TypeId} {cs : Array Value} {a : aY} (h : FT w g t cs a V) (b : Below B V V') (hB : w.heap.size < B) (hg : g < B) : FT w g t cs a V' :=
 ⟨⟨b.os.trans h.past.os, b.tape.trans h.past.tape, b.output.trans h.past.output, Nat.le_trans h.past.size b.size, fun i hi hne => (b.block i (by omega)).trans (h.past.block i hi hne)⟩, aa b h.box hB, aa b h.bb hg⟩
theorem JN (g : Nat) (t : TypeId) (rest : List Value) (U : jE) (a : aY) (w : World) (hb : ax w g t (U.cells ++ rest).toArray) (ha : a.In w g) (hn : iy a.T) (Pq : -2100000000000000 ≤ a.T.dW.1 ∧ a.T.dW.1 ≤ 2100000000000000) (hfe : 0 ≤ U.W.jv ∧ U.W.jv ≤ 2100000000000000) :
 Calls Tryz.prog 143 #[.pointer (some ⟨g, 0, none⟩), .agg a.cells.toArray] w (Bw g t rest U w (jM U.W a.T)) := by
 have HG := qh hb.lt
 have H0 := qh (show FT w g t (U.cells ++ rest).toArray a (w.alloc (.cells a.cells.toArray 92)) from ⟨Past.of_below ((Below.refl _ _).alloc (Nat.le_refl _) _), ax.new w 92 a.cells.toArray, hb.alloc _⟩)
 have IN := qh (fun V (p : Past g w V) => ha.Ec p (Nat.le_of_lt HG.out))
 have HN := qh hn
 have Ud := qh Pq
 have HFE := qh hfe
 obtain ⟨sc, hsc⟩ : ∃ sc, rY U.W.pool U.W.came a.T.dW.1 = sc := ⟨_, rfl⟩
 have CR := qh (fun V (h : ax V g t (U.cells ++ rest).toArray) => show Calls _ _ _ _ (FM g t rest U _ sc) from hsc ▸ Nc g t rest U a.T.dW.1 V h (by have := Ud.out; omega))
 obtain ⟨X, hX⟩ : ∃ X, jM U.W a.T = X := ⟨_, rfl⟩
 rw [hX]
 have HX := qh (show Rj (lW a.T) U.W.jv sc = X from hsc ▸ hX)
 clear hsc hX hb ha hn Pq hfe
 go_enter Tryz.func143, Tryz.ntmps143
 go_wp2_with fail
 refine wp_region_held_drew (S := fun V => ∃ cs, FT w g t cs a V) (by kernel_rfl) ⟨_, H0.out.call (Below.refl _ _).drew⟩ ?_
 have H1 := qh (H0.out.call (Below.refl _ _).drew)
 clear H0
 intro hS
 refine tkp 0 (.pointer (some ⟨g, 0, none⟩)) rfl hS ?_
 go_simp
 refine tkp 1 (.pointer (some ⟨g, 0, none⟩)) rfl hS ?_
 go_simp
 refine tkp 2 (.pointer (some ⟨g, 0, none⟩)) rfl hS ?_
 go_simp
 refine tkp 3 (.pointer (some ⟨w.heap.size, 37, none⟩)) rfl hS ?_
 go_simp
 refine tk 4 (.int .i64 a.T.dW.1) rfl (bJ (by rfl) 2 (.tmp 9) rfl ⟨w.heap.size, 37, none⟩ rfl _ Tryz.isAgg2 (fun _ h => aY.c6 h.choose_spec.cell)) hS ?_
 go_simp
 refine rd 5 rfl (fun Kq hK => ?_)
 go_simp
 with_reducible refine (CR.out _ H1.out.bb).mono ?_
 rintro e x5 hx
 have HXC := qh hx
 clear hx CR
 cases sc with
 | none =>
  obtain ⟨p5, rfl⟩ := HXC.out
  have hx := HX.out
  simp only [Rj] at hx
  subst hx
  exact ⟨rfl, H1.out.past.trans p5, rfl⟩
 | some s =>
 obtain ⟨p5, rfl, bb5⟩ := HXC.out
 have H2 := qh (H1.out.turn p5 bb5 HG.out)
 refine hK.out _ _ ⟨_, H2.out⟩ (fun hS => ?_)
 clear hK Kq p5 bb5 H1 HXC hS
 refine wpAnyH_done (by kernel_rfl) ?_ _
 obtain ⟨ao, hao⟩ : ∃ ao, aaX s.1 s.2 = ao := ⟨_, rfl⟩
 have AO := qh (fun V => hao ▸ Jf s.1 s.2 V)
 have Ji := qh (show zG (lW a.T) U.W.jv ao = X from hao ▸ HX.out)
 clear hao HX
 go_wp2_with fail
 refine wp_region_held_drew (S := fun V => ∃ U' : jE, FT w g t (U'.cells ++ rest).toArray a V ∧ U'.W.came = s.2) (by kernel_rfl) ⟨(⟨{ U.W with pool := s.1, came := s.2 }, U.Ac, U.cc, U.An, U.cn, U.Ar, U.cr⟩ : jE), H2.out.call (Below.refl _ _).drew, rfl⟩ ?_
 have H3 := qh (H2.out.call (Below.refl _ _).drew)
 clear H2
 intro hS
 refine tkp 0 (.pointer (some ⟨g, 0, none⟩)) rfl hS ?_
 go_simp
 refine tkp 1 (.pointer (some ⟨g, 0, none⟩)) rfl hS ?_
 go_simp
 refine tkp 2 (.pointer (some ⟨g, 0, none⟩)) rfl hS ?_
 go_simp
 refine tkp 3 (.pointer (some ⟨g, 0, none⟩)) rfl hS ?_
 go_simp
 refine tkp 4 (.pointer (some ⟨g, 4, none⟩)) rfl hS ?_
 go_simp
 refine tkp 6 (.pointer (some ⟨g, 0, none⟩)) rfl hS ?_
 go_simp
 refine tkp 7 (.pointer (some ⟨g, 0, none⟩)) rfl hS ?_
 go_simp
 refine tkp 8 (.pointer (some ⟨g, 0, none⟩)) rfl hS ?_
 go_simp
 refine tkp 9 (.pointer (some ⟨g, 5, none⟩)) rfl hS ?_
 go_simp
 refine tk 10 (.int .i64 s.2) rfl (bJ (by rfl) 2 (.tmp 21) rfl ⟨g, 5, none⟩ rfl _ Tryz.isAgg2 (fun _ h => by obtain ⟨U', h1, h2⟩ := h; rw [← h2]; exact jK h1.bb 5 _ rfl)) hS ?_
 go_simp
 refine rd 5 rfl (fun Kq hK => ?_)
 refine iQ (by rfl) 2 (.tmp 16) rfl ⟨g, 4, none⟩ rfl (.int .i64 s.1) Tryz.isAgg2 (jK H3.out.bb 4 _ rfl) ?_
 refine hK.out _ _ hS (fun hS => ?_)
 clear hK Kq
 go_simp
 refine rd 11 rfl (fun Kq hK => ?_)
 go_simp
 with_reducible refine (AO.out _).mono ?_
 rintro e x11 ⟨rfl, bq⟩
 have H4 := qh (H3.out.call bq)
 refine hK.out _ _ ⟨(⟨{ U.W with pool := s.1, came := s.2 }, U.Ac, U.cc, U.An, U.cn, U.Ar, U.cr⟩ : jE), H4.out, rfl⟩ (fun hS => ?_)
 clear hK Kq bq H3 AO
 go_simp
 cases ao with
 | none =>
  have hv0 : mY none = .tuple #[.int .i64 0, .int .i64 20] := rfl
  rw [hv0]
  clear hv0
  refine tkp 12 (.int .i64 0) rfl hS ?_
  go_simp
  refine tkp 13 (.int .i64 20) rfl hS ?_
  go_simp
  refine rd 14 rfl (fun Kq hK => ?_)
  go_simp
  with_reducible refine (qa 0 20 (by decide) _).mono ?_
  rintro e x14 ⟨rfl, rfl⟩
  have hx := Ji.out
  simp only [zG] at hx
  subst hx
  exact ⟨rfl, H4.out.past, rfl⟩
 | some p =>
 have hv0 : mY (some p) = .tuple #[.int .i64 p, .int .i64 0] := rfl
 rw [hv0]
 clear hv0
 refine tkp 12 (.int .i64 p) rfl hS ?_
 go_simp
 refine tkp 13 (.int .i64 0) rfl hS ?_
 go_simp
 refine rd 14 rfl (fun Kq hK => ?_)
 go_simp
 with_reducible refine (sj p _).mono ?_
 rintro e x14 ⟨rfl, rfl⟩
 refine hK.out _ _ hS (fun hS => ?_)
 clear hK Kq
 go_simp
 refine tkp 15 (.pointer (some ⟨g, 0, none⟩)) rfl hS ?_
 go_simp
 refine tkp 16 (.pointer (some ⟨g, 0, none⟩)) rfl hS ?_
 go_simp
 refine tkp 17 (.pointer (some ⟨g, 4, none⟩)) rfl hS ?_
 go_simp
 refine rd 18 rfl (fun Kq hK => ?_)
 refine dU rfl 2 (.tmp 29) (.tmp 26) rfl rfl g 4 (.int .i64 p) rfl rfl rfl t _ H4.out.bb (by rw [xh]; omega) (by kernel_rfl) ?_
 intro w6 o6 b6
 rw [wo] at b6
 have H5 := qh (show FT w g t ((⟨{ U.W with pool := p, came := s.2 }, U.Ac, U.cc, U.An, U.cn, U.Ar, U.cr⟩ : jE).cells ++ rest).toArray a w6 from H4.out.turn (Past.kM o6) b6 HG.out)
 refine hK.out _ _ ⟨(⟨{ U.W with pool := p, came := s.2 }, U.Ac, U.cc, U.An, U.cn, U.Ar, U.cr⟩ : jE), H5.out, rfl⟩ (fun _ => ?_)
 clear hK Kq o6 b6 H4 hS
 refine wpAnyH_done (by kernel_rfl) ?_ _
 have Wu := qh (Lh a.T)
 obtain ⟨zs, hzs⟩ : ∃ zs, fV a.T = zs := ⟨_, rfl⟩
 have CX := qh (show zs.length ≤ 120 by rw [← hzs]; unfold fV; rw [List.length_map]; exact HN.out.o)
 have VL := qh (fun V (h : a.In V V.heap.size) => hzs ▸ J3 a V h HN.out)
 rw [hzs] at Wu
 obtain ⟨cl, hcl⟩ : ∃ cl, lW a.T = cl := ⟨_, rfl⟩
 rw [hcl] at Wu Ji
 clear hzs hcl
 have hwb : IntKind.i64.wrap (-a.T.dW.1) = -a.T.dW.1 := by have := Ud.out; rw [IntKind.wrap_i64]; omega
 have SU := qh (fun V A n c B (hn : n ≤ 1000) (r : Reads V B 1 A n (ints (zs ++ [-a.T.dW.1]))) (hB : B ≤ V.heap.size) => Wu.out ▸ EF (zs ++ [-a.T.dW.1]) A n c B V r hB (Nat.le_trans hn (by decide)))
 clear Wu
 go_wp2_with fail
 refine wp_region_held_drew (S := FT w g t ((⟨{ U.W with pool := p, came := s.2 }, U.Ac, U.cc, U.An, U.cn, U.Ar, U.cr⟩ : jE).cells ++ rest).toArray a) (by kernel_rfl) (H5.out.call (Below.refl _ _).drew) ?_
 clear H5
 intro hS
 refine tk 0 (.agg a.cells.toArray) rfl (di.aB (by rfl) (.tmp 3) rfl w.heap.size 0 rfl a (fun _ h => h.cell)) hS ?_
 go_simp
 refine tkp 2 (.pointer (some ⟨w.heap.size, 37, none⟩)) rfl hS ?_
 go_simp
 refine tk 3 (.int .i64 a.T.dW.1) rfl (bJ (by rfl) 2 (.tmp 33) rfl ⟨w.heap.size, 37, none⟩ rfl _ Tryz.isAgg2 (fun _ h => aY.c6 h.cell)) hS ?_
 go_simp
 refine tkp 4 (.int .i64 (-a.T.dW.1)) rfl hS ?_
 go_simp
 obtain ⟨V5, hV5⟩ : ∃ V5, w6.drew = V5 := ⟨_, rfl⟩
 rw [hV5] at hS ⊢
 clear hV5
 refine rd2 1 5 rfl (fun Kq hK => ?_) rfl (fun Kq hK => ?_)
 ·go_simp
  with_reducible refine (VL.out _ (IN.out _ hS.past)).mono ?_
  rintro e x1 ⟨A5, c5, rfl, o5, bq⟩
  have Uc := qh (show w.heap.size < V5.heap.size from hS.box.lt)
  have YW := qh (show g < V5.heap.size from hS.bb.lt)
  have HB5 := qh bq.size
  refine hK.out _ _ (hS.call bq) (fun hS => ?_)
  have O5 := qh o5
  clear hK Kq bq o5 VL
  go_simp
  refine rd 5 rfl (fun Kq hK => ?_)
  go_simp
  have bl : Below x1.heap.size x1 (x1.alloc (.cells #[.int .i64 (-a.T.dW.1)] 2)) := (Below.refl _ _).alloc (Nat.le_refl _) _
  have LB := qh (ax.new x1 2 #[.int .i64 (-a.T.dW.1)])
  have O6 := qh (aL O5.out bl)
  have Wv := qh (show V5.heap.size ≤ (x1.alloc (.cells #[.int .i64 (-a.T.dW.1)] 2)).heap.size by have := HB5.out; simp; omega)
  have UZ := qh (show ∀ (w7 : World) (v : Value), (x1.alloc (.cells #[.int .i64 (-a.T.dW.1)] 2)).ownsRow V5.heap.size 2 1 v zs.length (ints zs) → (x1.alloc (.cells #[.int .i64 (-a.T.dW.1)] 2)).grownBy w7 v.ownBlock → Below V5.heap.size (x1.alloc (.cells #[.int .i64 (-a.T.dW.1)] 2)) w7 from fun w7 v o gr => (Below.refl _ _).grown gr Wv.out (iG o))
  refine hK.out _ _ (hS.call bl) (fun hS => ?_)
  clear hK Kq bl O5 HB5
  go_simp
  refine rd 6 rfl (fun Kq hK => ?_)
  refine mU rfl (.tmp 32) (.tmp 36) 184 rfl V5.heap.size 2 _ 8 Tryz.underlying184 Cy rfl (by omega) _ zs.length _ rfl O6.out x1.heap.size 1 (.int .i64 (-a.T.dW.1)) rfl LB.out rfl (by have := CX.out; omega) Wv.out ?_
  intro v7 w7 o7 g7 _
  have B7 := UZ.out w7 _ O6.out g7
  obtain ⟨A7, c7, rfl⟩ := ek o7
  have R7 := qh (show Reads w7 w7.heap.size 1 A7 (zs.length + 1) (ints (zs ++ [-a.T.dW.1])) from by have := Reads.fO o7; rwa [show ints zs ++ [Value.int .i64 (-a.T.dW.1)] = ints (zs ++ [-a.T.dW.1]) by simp [ints]] at this)
  refine hK.out _ _ (hS.low B7 Uc.out YW.out) (fun hS => ?_)
  clear hK Kq o7 g7 B7 O6 LB Wv UZ Uc YW
  go_simp
  refine rd 7 rfl (fun Kq hK => ?_)
  go_simp
  with_reducible refine (SU.out _ A7 (zs.length + 1) c7 _ (by have := CX.out; omega) R7.out (Nat.le_refl _)).mono ?_
  rintro e x7 ⟨rfl, bq⟩
  refine hK.out _ _ (hS.call bq) (fun hS => ?_)
  clear hK Kq bq R7 SU
  go_simp
  obtain ⟨va, hva⟩ : ∃ va, FV cl = va := ⟨_, rfl⟩
  obtain ⟨ea, Vv⟩ : ∃ ea, yZ cl = ea := ⟨_, rfl⟩
  have HV := qh (show mY cl = .tuple #[.int .i64 va, .int .i64 ea] by rw [← hva, ← Vv]; rfl)
  have YJ := qh (And.intro hva Vv)
  rw [HV.out]
  clear hva Vv HV
  refine tkp 8 (.tuple #[.int .i64 va, .int .i64 ea]) rfl hS ?_
  go_simp
  refine tkp 9 (.int .i64 va) rfl hS ?_
  go_simp
  refine tkp 10 (.int .i64 ea) rfl hS ?_
  go_simp
  refine rd 11 rfl (fun Kq hK => ?_)
  go_simp
  refine hK.out _ _ hS (fun hS => ?_)
  clear hK Kq
  go_simp
  refine rd 12 rfl (fun Kq hK => ?_)
  go_simp
  refine hK.out _ _ hS (fun hS => ?_)
  clear hK Kq
  go_simp
  refine wpAnyH_done (by kernel_rfl) ?_ _
  have H6 := qh hS
  clear hS
  have k6 := jK H6.out.bb 6 (.int .i64 U.W.jv) rfl
  have hw7 : wrap64 (5000000 + U.W.jv) = 5000000 + U.W.jv := by have := HFE.out; exact IntWalk.wrap64_in _ (by omega)
  cases cl with
  | none =>
   obtain ⟨rfl, rfl⟩ := YJ.out
   have hx := Ji.out
   simp only [zG, reduceCtorEq, if_false] at hx
   subst hx
   have hz : (yZ none == (0 : Int)) = false := rfl
   go_wp2_with fail
   refine (jG 165 _).mono ?_
   rintro e w8 ⟨rfl, rfl⟩
   exact ⟨rfl, H6.out.past, rfl⟩
  | some n =>
  obtain ⟨hva, rfl⟩ := YJ.out
  have hva : n = va := hva
  subst hva
  have hz : (yZ (some n) == (0 : Int)) = true := rfl
  by_cases hq : n = 5000000 + U.W.jv
  ·have hq2 : (n == 5000000 + U.W.jv) = true := beq_iff_eq.2 hq
   have hx := Ji.out
   simp only [zG] at hx
   rw [if_pos (by rw [hq])] at hx
   subst hx
   have sV := qh hq2
   clear hq hq2
   have hq2 := sV.out
   rw [← hw7] at hq2
   clear hw7
   go_wp2_with fail
   refine (jX 165 _).mono ?_
   rintro e w8 ⟨rfl, rfl⟩
   go_wp2_with fail
   exact ⟨rfl, .tuple #[], by simp [results, Tryz.results143], H6.out.past, rfl, s.2, H6.out.bb⟩
  ·have hq2 : (n == 5000000 + U.W.jv) = false := beq_eq_false_iff_ne.2 hq
   have hx := Ji.out
   simp only [zG] at hx
   rw [if_neg (fun h => hq (Option.some.inj h))] at hx
   subst hx
   have sV := qh hq2
   clear hq hq2
   have hq2 := sV.out
   rw [← hw7] at hq2
   clear hw7
   go_wp2_with fail
   refine (jG 165 _).mono ?_
   rintro e w8 ⟨rfl, rfl⟩
   exact ⟨rfl, H6.out.past, rfl⟩
 ·go_simp
  have bl : Below V5.heap.size V5 (V5.alloc (.cells #[.int .i64 (-a.T.dW.1)] 2)) := (Below.refl _ _).alloc (Nat.le_refl _) _
  have ZE := qh (ax.new V5 2 #[.int .i64 (-a.T.dW.1)])
  refine hK.out _ _ (hS.call bl) (fun hS => ?_)
  clear hK Kq bl
  go_simp
  obtain ⟨V6, hV6⟩ : ∃ V6, V5.alloc (.cells #[.int .i64 (-a.T.dW.1)] 2) = V6 := ⟨_, rfl⟩
  rw [hV6] at hS ZE ⊢
  clear hV6
  refine rd 1 rfl (fun Kq hK => ?_)
  go_simp
  with_reducible refine (VL.out _ (IN.out _ hS.past)).mono ?_
  rintro e x1 ⟨A5, c5, rfl, o5, bq⟩
  have Uc := qh (show w.heap.size < V6.heap.size from hS.box.lt)
  have YW := qh (show g < V6.heap.size from hS.bb.lt)
  have Wv := qh bq.size
  have LB := qh (aa bq ZE.out ZE.out.lt)
  have O6 := qh o5
  have UZ := qh (show ∀ (w7 : World) (v : Value), x1.ownsRow V6.heap.size 2 1 v zs.length (ints zs) → x1.grownBy w7 v.ownBlock → Below V6.heap.size x1 w7 from fun w7 v o gr => (Below.refl _ _).grown gr Wv.out (iG o))
  refine hK.out _ _ (hS.call bq) (fun hS => ?_)
  clear hK Kq bq o5 VL ZE
  go_simp
  refine rd 6 rfl (fun Kq hK => ?_)
  refine mU rfl (.tmp 32) (.tmp 36) 184 rfl V6.heap.size 2 _ 8 Tryz.underlying184 Cy rfl (by omega) _ zs.length _ rfl O6.out V5.heap.size 1 (.int .i64 (-a.T.dW.1)) rfl LB.out rfl (by have := CX.out; omega) Wv.out ?_
  intro v7 w7 o7 g7 _
  have B7 := UZ.out w7 _ O6.out g7
  obtain ⟨A7, c7, rfl⟩ := ek o7
  have R7 := qh (show Reads w7 w7.heap.size 1 A7 (zs.length + 1) (ints (zs ++ [-a.T.dW.1])) from by have := Reads.fO o7; rwa [show ints zs ++ [Value.int .i64 (-a.T.dW.1)] = ints (zs ++ [-a.T.dW.1]) by simp [ints]] at this)
  refine hK.out _ _ (hS.low B7 Uc.out YW.out) (fun hS => ?_)
  clear hK Kq o7 g7 B7 O6 LB Wv UZ Uc YW
  go_simp
  refine rd 7 rfl (fun Kq hK => ?_)
  go_simp
  with_reducible refine (SU.out _ A7 (zs.length + 1) c7 _ (by have := CX.out; omega) R7.out (Nat.le_refl _)).mono ?_
  rintro e x7 ⟨rfl, bq⟩
  refine hK.out _ _ (hS.call bq) (fun hS => ?_)
  clear hK Kq bq R7 SU
  go_simp
  obtain ⟨va, hva⟩ : ∃ va, FV cl = va := ⟨_, rfl⟩
  obtain ⟨ea, Vv⟩ : ∃ ea, yZ cl = ea := ⟨_, rfl⟩
  have HV := qh (show mY cl = .tuple #[.int .i64 va, .int .i64 ea] by rw [← hva, ← Vv]; rfl)
  have YJ := qh (And.intro hva Vv)
  rw [HV.out]
  clear hva Vv HV
  refine tkp 8 (.tuple #[.int .i64 va, .int .i64 ea]) rfl hS ?_
  go_simp
  refine tkp 9 (.int .i64 va) rfl hS ?_
  go_simp
  refine tkp 10 (.int .i64 ea) rfl hS ?_
  go_simp
  refine rd 11 rfl (fun Kq hK => ?_)
  go_simp
  refine hK.out _ _ hS (fun hS => ?_)
  clear hK Kq
  go_simp
  refine rd 12 rfl (fun Kq hK => ?_)
  go_simp
  refine hK.out _ _ hS (fun hS => ?_)
  clear hK Kq
  go_simp
  refine wpAnyH_done (by kernel_rfl) ?_ _
  have H6 := qh hS
  clear hS
  have k6 := jK H6.out.bb 6 (.int .i64 U.W.jv) rfl
  have hw7 : wrap64 (5000000 + U.W.jv) = 5000000 + U.W.jv := by have := HFE.out; exact IntWalk.wrap64_in _ (by omega)
  cases cl with
  | none =>
   obtain ⟨rfl, rfl⟩ := YJ.out
   have hx := Ji.out
   simp only [zG, reduceCtorEq, if_false] at hx
   subst hx
   have hz : (yZ none == (0 : Int)) = false := rfl
   go_wp2_with fail
   refine (jG 165 _).mono ?_
   rintro e w8 ⟨rfl, rfl⟩
   exact ⟨rfl, H6.out.past, rfl⟩
  | some n =>
  obtain ⟨hva, rfl⟩ := YJ.out
  have hva : n = va := hva
  subst hva
  have hz : (yZ (some n) == (0 : Int)) = true := rfl
  by_cases hq : n = 5000000 + U.W.jv
  ·have hq2 : (n == 5000000 + U.W.jv) = true := beq_iff_eq.2 hq
   have hx := Ji.out
   simp only [zG] at hx
   rw [if_pos (by rw [hq])] at hx
   subst hx
   have sV := qh hq2
   clear hq hq2
   have hq2 := sV.out
   rw [← hw7] at hq2
   clear hw7
   go_wp2_with fail
   refine (jX 165 _).mono ?_
   rintro e w8 ⟨rfl, rfl⟩
   go_wp2_with fail
   exact ⟨rfl, .tuple #[], by simp [results, Tryz.results143], H6.out.past, rfl, s.2, H6.out.bb⟩
  ·have hq2 : (n == 5000000 + U.W.jv) = false := beq_eq_false_iff_ne.2 hq
   have hx := Ji.out
   simp only [zG] at hx
   rw [if_neg (fun h => hq (Option.some.inj h))] at hx
   subst hx
   have sV := qh hq2
   clear hq hq2
   have hq2 := sV.out
   rw [← hw7] at hq2
   clear hw7
   go_wp2_with fail
   refine (jG 165 _).mono ?_
   rintro e w8 ⟨rfl, rfl⟩
   exact ⟨rfl, H6.out.past, rfl⟩
end
section
open Go.RowKit
theorem Aw (A : Option Addr) (c : Nat) (l : List aS) (k : aS) (w : World) (hn : l.length ≤ 200) (hl : aK ak 32 w w.heap.size A c l) :
 Calls Tryz.prog 7 #[.agg #[.slice A l.length c], .agg (ak k).toArray] w fun e w' => ∃ A' c', e = .returned (.agg #[.slice A' (bU 8 (l ++ [k])).length c']) ∧ w'.ownsRow w.heap.size 26 32 (.slice A' (bU 8 (l ++ [k])).length c') (bU 8 (l ++ [k])).length (cellsOf ak (bU 8 (l ++ [k]))) ∧ Below w.heap.size w w' := by
 have HN := qh hn
 have HN7 := qh (show (bU 7 l).length ≤ 7 by rw [lq]; omega)
 have P0 := qh (show Ij w A c l k (((w.alloc (.cells #[.slice A l.length c] 35)).alloc (.cells (ak k).toArray 26)).alloc (.cells #[.slice none 0 0] 35)) from ⟨(((Below.refl w.heap.size w).alloc (Nat.le_refl _) _).alloc (by simp) _).alloc (by simp; omega) _, ((ax.new w 35 #[.slice A l.length c]).alloc _).alloc _, (bg (g := w.heap.size + 1) 26 (ak k).toArray (by simp)).alloc _, bg (g := w.heap.size + 1 + 1) 35 #[.slice none 0 0] (by simp), hl.below ((((Below.refl w.heap.size w).alloc (Nat.le_refl _) _).alloc (by simp) _).alloc (by simp; omega) _)⟩)
 clear hl hn
 go_enter Tryz.func7, Tryz.ntmps7
 go_wp2_with fail
 have P1 := qh P0.out.drew
 clear P0
 refine wp_region_held_drew (S := fun W => W.cell? ⟨w.heap.size, 0, none⟩ = some (.slice A l.length c) ∧ au W (w.heap.size + 1) 0 (ak k)) (by kernel_rfl) ⟨P1.out.QV.cell 0, au.ah P1.out.kb⟩ ?_
 intro hS
 refine tkp 0 (.pointer (some ⟨w.heap.size, 0, none⟩)) rfl hS ?_
 simp only [Act.put, List.getElem_toArray, List.getElem_cons_zero, List.setIfInBounds_toArray, List.set_cons_succ, List.set_cons_zero]
 refine tk 1 (.slice A l.length c) rfl (mg (by rfl) 22 (.tmp 5) rfl ⟨w.heap.size, 0, none⟩ rfl _ Tryz.isAgg22 (fun _ h => h.1)) hS ?_
 simp only [Act.put, List.getElem_toArray, List.getElem_cons_zero, List.getElem_cons_succ, List.setIfInBounds_toArray, List.set_cons_succ, List.set_cons_zero]
 refine tk 3 (.agg (ak k).toArray) rfl (bL.aB (by rfl) (.tmp 3) rfl (w.heap.size + 1) 0 rfl k (fun _ h => h.2)) hS ?_
 simp only [Act.put, List.getElem_toArray, List.getElem_cons_zero, List.getElem_cons_succ, List.setIfInBounds_toArray, List.set_cons_succ, List.set_cons_zero]
 refine rd2 2 4 rfl (fun Kq hK => ?_) rfl (fun Kq hK => ?_)
 ·go_simp
  with_reducible refine (Ab A c l _ (by have := HN.out; omega) P1.out.row.le).mono ?_
  rintro e x1 ⟨rfl, rfl⟩
  refine hK.out _ _ hS (fun hS => ?_)
  clear hK Kq
  try simp only [Act.put, List.getElem_toArray, List.getElem_cons_zero, List.getElem_cons_succ, List.setIfInBounds_toArray, List.set_cons_succ, List.set_cons_zero]
  refine rd 4 rfl (fun Kq hK => ?_)
  refine eH.gN rfl Yv 1 _ rfl [k] rfl (by omega) (by omega) (by kernel_rfl) ?_
  have P2 := qh (P1.out.on ((Below.refl _ _).alloc (Nat.le_refl _) (.cells (cellsOf ak [k]).toArray 26)))
  have KB := qh (ax.new (((w.alloc (.cells #[.slice A l.length c] 35)).alloc (.cells (ak k).toArray 26)).alloc (.cells #[.slice none 0 0] 35)).drew 26 (cellsOf ak [k]).toArray)
  refine hK.out _ _ ⟨P2.out.QV.cell 0, au.ah P2.out.kb⟩ (fun hS => ?_)
  clear hK Kq P1
  try simp only [Act.put, List.getElem_toArray, List.getElem_cons_zero, List.getElem_cons_succ, List.setIfInBounds_toArray, List.set_cons_succ, List.set_cons_zero]
  refine rd 5 rfl (fun Kq hK => ?_)
  refine eH.pE rfl TM 32 TN (by omega) (.tmp 7) (.tmp 9) rfl _ (tailA 7 A l) (bU 7 l).length (bU 7 l) rfl rfl (xN P2.out.row) _ 1 k rfl (by first | exact KB.out | simpa using KB.out) (by have := HN7.out; omega) ?_
  intro v5 w5 p5 g5
  rw [← yM] at p5
  have P5 := qh (P2.out.on ((Below.refl _ _).grown g5 (Nat.le_refl _) (fun _ h => by cases h)))
  obtain ⟨A5, c5, rfl, r5⟩ := aK.fO aC p5
  have O5 := qh (aW p5 P2.out.below.size)
  refine hK.out _ _ ⟨P5.out.QV.cell 0, au.ah P5.out.kb⟩ (fun hS => ?_)
  clear hK Kq p5 g5 r5
  try simp only [Act.put, List.getElem_toArray, List.getElem_cons_zero, List.getElem_cons_succ, List.setIfInBounds_toArray, List.set_cons_succ, List.set_cons_zero]
  obtain ⟨n5, XX⟩ : ∃ n5, (bU 8 (l ++ [k])).length = n5 := ⟨_, rfl⟩
  have HN5 := qh XX
  clear XX
  refine tk 6 (.agg #[.slice A5 (bU 8 (l ++ [k])).length c5]) rfl (bH (by rfl) 35 #[(0, .tmp 10)] rfl #[.slice A5 (bU 8 (l ++ [k])).length c5] (by kernel_rfl)) hS ?_
  simp only [Act.put, List.getElem_toArray, List.getElem_cons_zero, List.getElem_cons_succ, List.setIfInBounds_toArray, List.set_cons_succ, List.set_cons_zero]
  refine rd 7 rfl (fun Kq hK => ?_)
  refine rV.aH rfl (.tmp 4) (.tmp 11) rfl rfl (w.heap.size + 1 + 1) (A5, (bU 8 (l ++ [k])).length, c5) rfl rfl 35 _ P5.out.out rfl ?_
  intro w7 o7 b7
  refine hK.out _ _ ⟨(o7.blk P5.out.QV (by simp only [List.mem_singleton]; omega)).cell 0, au.ah (o7.blk P5.out.kb (by simp only [List.mem_singleton]; omega))⟩ (fun _ => ?_)
  clear hK Kq hS
  refine wpAnyH_done (by kernel_rfl) ?_ _
  go_wp2_with fail
  refine bodyPost_ret (kK rfl _ _ (w.heap.size + 1 + 1) 35 _ _ rfl b7 Zg rfl (by kernel_rfl)) rfl ⟨A5, c5, rfl, aI O5.out o7 P5.out.out (by decide), P5.out.below.trans (o7.below (by simp; omega))⟩
 ·refine eH.gN rfl Yv 1 _ rfl [k] rfl (by omega) (by omega) (by kernel_rfl) ?_
  have P2 := qh (P1.out.on ((Below.refl _ _).alloc (Nat.le_refl _) (.cells (cellsOf ak [k]).toArray 26)))
  have KB := qh (show ax ((((w.alloc (.cells #[.slice A l.length c] 35)).alloc (.cells (ak k).toArray 26)).alloc (.cells #[.slice none 0 0] 35)).alloc (.cells (cellsOf ak [k]).toArray 26)).drew (w.heap.size + 1 + 1 + 1) 26 (cellsOf ak [k]).toArray from bg (g := w.heap.size + 1 + 1 + 1) (w := (((w.alloc (.cells #[.slice A l.length c] 35)).alloc (.cells (ak k).toArray 26)).alloc (.cells #[.slice none 0 0] 35))) 26 (cellsOf ak [k]).toArray (by simp))
  refine hK.out _ _ ⟨P2.out.QV.cell 0, au.ah P2.out.kb⟩ (fun hS => ?_)
  clear hK Kq P1
  try simp only [Act.put, List.getElem_toArray, List.getElem_cons_zero, List.getElem_cons_succ, List.setIfInBounds_toArray, List.set_cons_succ, List.set_cons_zero]
  refine rd 2 rfl (fun Kq hK => ?_)
  go_simp
  with_reducible refine (Ab A c l _ (by have := HN.out; omega) P2.out.row.le).mono ?_
  rintro e x1 ⟨rfl, rfl⟩
  refine hK.out _ _ hS (fun hS => ?_)
  clear hK Kq
  try simp only [Act.put, List.getElem_toArray, List.getElem_cons_zero, List.getElem_cons_succ, List.setIfInBounds_toArray, List.set_cons_succ, List.set_cons_zero]
  refine rd 5 rfl (fun Kq hK => ?_)
  refine eH.pE rfl TM 32 TN (by omega) (.tmp 7) (.tmp 9) rfl _ (tailA 7 A l) (bU 7 l).length (bU 7 l) rfl rfl (xN P2.out.row) _ 1 k rfl (by first | exact KB.out | simpa using KB.out) (by have := HN7.out; omega) ?_
  intro v5 w5 p5 g5
  rw [← yM] at p5
  have P5 := qh (P2.out.on ((Below.refl _ _).grown g5 (Nat.le_refl _) (fun _ h => by cases h)))
  obtain ⟨A5, c5, rfl, r5⟩ := aK.fO aC p5
  have O5 := qh (aW p5 P2.out.below.size)
  refine hK.out _ _ ⟨P5.out.QV.cell 0, au.ah P5.out.kb⟩ (fun hS => ?_)
  clear hK Kq p5 g5 r5
  try simp only [Act.put, List.getElem_toArray, List.getElem_cons_zero, List.getElem_cons_succ, List.setIfInBounds_toArray, List.set_cons_succ, List.set_cons_zero]
  obtain ⟨n5, XX⟩ : ∃ n5, (bU 8 (l ++ [k])).length = n5 := ⟨_, rfl⟩
  have HN5 := qh XX
  clear XX
  refine tk 6 (.agg #[.slice A5 (bU 8 (l ++ [k])).length c5]) rfl (bH (by rfl) 35 #[(0, .tmp 10)] rfl #[.slice A5 (bU 8 (l ++ [k])).length c5] (by kernel_rfl)) hS ?_
  simp only [Act.put, List.getElem_toArray, List.getElem_cons_zero, List.getElem_cons_succ, List.setIfInBounds_toArray, List.set_cons_succ, List.set_cons_zero]
  refine rd 7 rfl (fun Kq hK => ?_)
  refine rV.aH rfl (.tmp 4) (.tmp 11) rfl rfl (w.heap.size + 1 + 1) (A5, (bU 8 (l ++ [k])).length, c5) rfl rfl 35 _ P5.out.out rfl ?_
  intro w7 o7 b7
  refine hK.out _ _ ⟨(o7.blk P5.out.QV (by simp only [List.mem_singleton]; omega)).cell 0, au.ah (o7.blk P5.out.kb (by simp only [List.mem_singleton]; omega))⟩ (fun _ => ?_)
  clear hK Kq hS
  refine wpAnyH_done (by kernel_rfl) ?_ _
  go_wp2_with fail
  refine bodyPost_ret (kK rfl _ _ (w.heap.size + 1 + 1) 35 _ _ rfl b7 Zg rfl (by kernel_rfl)) rfl ⟨A5, c5, rfl, aI O5.out o7 P5.out.out (by decide), P5.out.below.trans (o7.below (by simp; omega))⟩
theorem Ns (A : Option Addr) (c : Nat) (l : List aS) (k : aS) (w : World) (hn : l.length ≤ 200) (hl : aK ak 32 w w.heap.size A c l) :
 Calls Tryz.prog 7 #[.agg #[.slice A l.length c], .agg (ak k).toArray] w fun e w' => ∃ A' c', e = .returned (.agg #[.slice A' (ou l k).length c']) ∧ w'.ownsRow w.heap.size 26 32 (.slice A' (ou l k).length c') (ou l k).length (cellsOf ak (ou l k)) ∧ Below w.heap.size w w' := Aw A c l k w hn hl
end
section
open Go.RowKit
theorem iF {w w' : World} {lo base k k' n m : Nat} {e t : TypeId} {u v : Value} {xs ys : List Value} (h : w.ownsRow lo e k u m ys) (hg : w.grownBy w' v.ownBlock) (ho : w.ownsRow base t k' v n xs) (hne : e ≠ t) : w'.ownsRow lo e k u m ys := by
 refine ⟨h.1, h.2.imp id fun ⟨g, cap, cur, h1, h2, h3, h4⟩ => ⟨g, cap, cur, h1, h2, ?_, h4⟩⟩
 have hlt : g < w.heap.size := ax.lt (w := w) (g := g) (t := e) (cs := cur) h3
 refine (hg.block g hlt ?_).trans h3
 have hx := lJ ho (show ax w g e cur from h3) (fun q => hne q.symm)
 exact fun q => hx q.symm
section
variable {w w' : World} {lo base k' n : Nat} {t : TypeId} {v : Value} {xs : List Value}
theorem Bq.oH {a : aY} (h : Bq lo w a) (hg : w.grownBy w' v.ownBlock) (ho : w.ownsRow base t k' v n xs) (h1 : 142 ≠ t) (h2 : 144 ≠ t) (h3 : 26 ≠ t) : Bq lo w' a := ⟨iF h.ins hg ho h1, iF h.outs hg ho h2, iF h.av hg ho h3, iF h.notes hg ho h3⟩
theorem uZ.oH {b : bF} (h : uZ lo w b) (hg : w.grownBy w' v.ownBlock) (ho : w.ownsRow base t k' v n xs) (h1 : 142 ≠ t) (h2 : 144 ≠ t) (h3 : 26 ≠ t) (h4 : 92 ≠ t) : uZ lo w' b := ⟨iF h.row hg ho h4, fun x hx => (h.each x hx).oH hg ho h1 h2 h3⟩
theorem CZ.oH {a : eT} (h : CZ lo w a) (hg : w.grownBy w' v.ownBlock) (ho : w.ownsRow base t k' v n xs) (h1 : 317 ≠ t) (h2 : 26 ≠ t) : CZ lo w' a := ⟨iF h.aV hg ho h1, iF h.av hg ho h2, iF h.ring hg ho h2⟩
theorem wZ.oH {s : eB} (h : wZ lo w s) (hg : w.grownBy w' v.ownBlock) (ho : w.ownsRow base t k' v n xs) (h1 : 142 ≠ t) (h2 : 144 ≠ t) (h3 : 26 ≠ t) (h4 : 92 ≠ t) (h5 : 317 ≠ t) : wZ lo w' s := ⟨h.b.oH hg ho h1 h2 h3 h4, h.c.oH hg ho h5 h3, h.m⟩
end
theorem Xc : ((Tryz.prog.info? 340).bind (·.zero)).map (·.cells.size) = some 1129 := by kernel_rfl
theorem Xb : ((Tryz.prog.info? 340).bind (·.zero)).isSome = true := by kernel_rfl
theorem Xd : ∃ b, (Tryz.prog.info? 340).map (·.bytes) = some b ∧ b ≤ 100000 := by
 refine ⟨((Tryz.prog.info? 340).map (·.bytes)).getD 0, ?_, ?_⟩
 ·kernel_rfl
 ·exact of_decide_eq_true (by kernel_rfl)
theorem rz.rd {w : World} {g : Nat} {k : rz} (h : au w g 0 k.cells) : au w g 7 k.d.cells := by
 have := h.right.left
 rw [k.U.len] at this
 exact this
theorem rz.rb {w : World} {g : Nat} {k : rz} (h : au w g 0 k.cells) : au w g 1070 k.b.cells := by
 have := h.right.right
 rw [k.U.len, k.d.len] at this
 exact this
structure QF (d : CA) (b : bF) : Prop where
 c : kE d.c.C
 s : ∀ s ∈ d.past, LQ s
 p : d.past.length ≤ 900
 b : Ue b
theorem GK {α : Type} (l : List α) (x : α) : l.drop (l.length - 3) ++ [x] = bU 4 (l ++ [x]) := by
 unfold bU
 rw [List.length_append, List.length_singleton, show l.length + 1 - 4 = l.length - 3 by omega, List.drop_append, show l.length - 3 - l.length = 0 by omega, List.drop_zero]
theorem RP (g : Nat) (k : rz) (w : World) (hb : ax w g 222 k.cells.toArray) (hd : k.d.In w w.heap.size) (hbk : k.b.In w w.heap.size) (hl : QF k.d k.b) :
 Calls Tryz.prog 216 #[.pointer (some ⟨g, 0, none⟩)] w fun e w' => ∃ A' c' ys, ys.map eB.S = bU 4 (k.d.past.map eB.S ++ [(k.b.B, k.d.c.C)]) ∧ e = .returned (.slice A' ys.length c') ∧ w'.ownsRow w.heap.size 340 1129 (.slice A' ys.length c') ys.length (cellsOf eB.cells ys) ∧ (∀ y ∈ ys, wZ w.heap.size w' y) ∧ Below w.heap.size w w' := by
 obtain ⟨bz, aau, aat⟩ := Xd
 have HZB := qh (And.intro aau aat)
 have HB := qh hb
 have HG := qh hb.lt
 have HL := qh hl
 have DI := qh hd
 have BI := qh hbk
 have k7 : w.cell? ⟨g, 1069, none⟩ = some (.slice k.d.Ap k.d.past.length k.d.cp) := eT.c7 (rz.rd (au.ah hb))
 obtain ⟨n, hn⟩ : ∃ n, k.d.past.length = n := ⟨_, rfl⟩
 have HN := qh hn
 have hn9 : n ≤ 900 := by have := HL.out.p; omega
 obtain ⟨j, hj⟩ : ∃ j, n - 3 = j := ⟨_, rfl⟩
 have hle := hd.row.le
 have hmax := hd.row.max
 rw [hn] at k7 hle
 have hjn : j ≤ n := by omega
 have HJ := qh hj
 have hmx : max (0 : Int) ((n : Int) - 3) = (j : Int) := by omega
 have hwr : IntKind.i64.wrap ((n : Int) - 3) = (n : Int) - 3 := by rw [IntKind.wrap_i64]; omega
 have hwr2 : wrap64 ((n : Int) - 3) = (n : Int) - 3 := IntWalk.wrap64_in _ (by omega)
 have hsl : ∀ W, (Instr.slice 43 (.slice k.d.Ap n k.d.cp) (some (.int .i64 (j : Int))) none none).run Tryz.prog W = .ok (.slice (iN 1129 k.d.cp j k.d.Ap) (n - j) (k.d.cp - j)) W := fun W => Jn.fG W k.d.Ap n k.d.cp j (by omega)
 have HE := qh (fun W (hW : Below w.heap.size w W) => show Calls _ _ #[.slice (iN 1129 k.d.cp j k.d.Ap) (n - j) (k.d.cp - j), _] W _ from (show (k.d.past.drop j).length = n - j by rw [List.length_drop, HN.out]) ▸ DZ (iN 1129 k.d.cp j k.d.Ap) (k.d.cp - j) (k.d.past.drop j) W (((DI.out.row.drop eB.len j (by rw [HN.out]; exact hjn)).below hW).more hW.size) (fun x hx => ((DI.out.each x (List.mem_of_mem_drop hx)).below hW).more hW.size) (fun x hx => HL.out.s x (List.mem_of_mem_drop hx)) (by rw [List.length_drop]; have := HL.out.p; omega))
 clear hb hl hd hbk hn hj hle hmax
 go_enter Tryz.func216, Tryz.ntmps216
 go_wp2_with fail
 clear hsl hmx hwr hwr2 k7
 refine (HE.out _ (Below.refl _ _)).mono ?_
 rintro e w1 ⟨A1, c1, ys, hys, rfl, oy, ey, b1⟩
 have OY := qh oy
 have EY := qh ey
 have YG := qh hys
 have ZH := qh (show ys.length ≤ 900 by have := congrArg List.length hys; rw [List.length_map, List.length_map, List.length_drop] at this; have := HL.out.p; omega)
 have B1 := qh b1
 have ZG := qh (aa b1 HB.out HB.out.lt)
 clear oy ey hys b1 HE HB
 go_wp2_with fail
 refine wp_region_held_drew (S := fun V => ax V g 222 k.cells.toArray) (by kernel_rfl) ZG.out.drew ?_
 have C1 := qh (show Below w.heap.size w w1.drew from B1.out.drew)
 have O1 := qh (show w1.drew.ownsRow w.heap.size 340 1129 (.slice A1 ys.length c1) ys.length (cellsOf eB.cells ys) from OY.out)
 have E1 := qh (show ∀ y ∈ ys, wZ w.heap.size w1.drew y from fun y hy => (EY.out y hy).from (Below.refl _ _).drew)
 clear ZG B1 OY EY
 intro hS
 refine tkp 0 (.slice A1 ys.length c1) rfl hS ?_
 go_simp
 refine tkp 1 (.pointer (some ⟨g, 0, none⟩)) rfl hS ?_
 go_simp
 refine tkp 2 (.pointer (some ⟨g, 0, none⟩)) rfl hS ?_
 go_simp
 refine tkp 3 (.pointer (some ⟨g, 1070, none⟩)) rfl hS ?_
 go_simp
 refine tk 4 (.agg k.b.cells.toArray) rfl (fe.aB (by rfl) (.tmp 19) rfl g 1070 rfl k.b (fun _ h => rz.rb (au.ah h))) hS ?_
 go_simp
 refine tkp 6 (.pointer (some ⟨g, 0, none⟩)) rfl hS ?_
 go_simp
 refine tkp 7 (.pointer (some ⟨g, 0, none⟩)) rfl hS ?_
 go_simp
 refine tkp 8 (.pointer (some ⟨g, 7, none⟩)) rfl hS ?_
 go_simp
 refine tk 9 (.agg k.d.cells.toArray) rfl (cO.aB (by rfl) (.tmp 24) rfl g 7 rfl k.d (fun _ h => rz.rd (au.ah h))) hS ?_
 go_simp
 refine rd 5 rfl (fun Kq hK => ?_)
 go_simp
 with_reducible refine (xZ k.b _ ((BI.out.below C1.out).more C1.out.size) HL.out.b.t HL.out.b.n).mono ?_
 rintro e x5 ⟨yb, hyb, rfl, ob, bq⟩
 have OB := qh (ob.mono C1.out.size)
 have HYB := qh hyb
 have Q := qh (aL O1.out bq)
 clear O1
 have O1 := Q
 clear Q
 have Q := qh (fun y hy => (E1.out y hy).from bq)
 clear E1
 have E1 := Q
 clear Q
 have Q := qh (C1.out.trans (bq.mono C1.out.size))
 clear C1
 have C1 := Q
 clear Q
 refine hK.out _ _ (aa bq hS hS.lt) (fun hS => ?_)
 clear hK Kq bq ob hyb
 go_simp
 refine rd 10 rfl (fun Kq hK => ?_)
 go_simp
 with_reducible refine (yh k.d _ ((DI.out.c.below C1.out).more C1.out.size) HL.out.c).mono ?_
 rintro e Ui ⟨yc, WJ, rfl, oc, bq⟩
 have OC := qh (oc.mono C1.out.size)
 have HYC := qh WJ
 have Q := qh (aL O1.out bq)
 clear O1
 have O1 := Q
 clear Q
 have Q := qh (fun y hy => (E1.out y hy).from bq)
 clear E1
 have E1 := Q
 clear Q
 have Q := qh (OB.out.from bq)
 clear OB
 have OB := Q
 clear Q
 have Q := qh (C1.out.trans (bq.mono C1.out.size))
 clear C1
 have C1 := Q
 clear Q
 refine hK.out _ _ (aa bq hS hS.lt) (fun hS => ?_)
 clear hK Kq bq oc WJ
 go_simp
 refine tk 11 (.agg (⟨yb, yc, none, 0⟩ : eB).cells.toArray) rfl (bH (by rfl) 340 #[(0, .tmp 21), (1, .tmp 26)] rfl (⟨yb, yc, none, 0⟩ : eB).cells.toArray ((congrArg (Tryz.prog.built 340) (show _ = [(0, Value.agg yb.cells.toArray), (1, Value.agg (Ib yc).cells.toArray)] by kernel_rfl)).trans (Jw yb yc 340 rfl))) hS ?_
 go_simp
 refine rd 12 rfl (fun Kq hK => ?_)
 refine Jn.gN rfl Xb 1 _ rfl [(⟨yb, yc, none, 0⟩ : eB)] rfl (by omega) (by omega) (by kernel_rfl) ?_
 have bl : Below Ui.heap.size Ui (Ui.alloc (.cells (cellsOf eB.cells [(⟨yb, yc, none, 0⟩ : eB)]).toArray 340)) := (Below.refl _ _).alloc (Nat.le_refl _) _
 have LB := qh (ax.new Ui 340 (cellsOf eB.cells [(⟨yb, yc, none, 0⟩ : eB)]).toArray)
 have Q := qh (aL O1.out bl)
 clear O1
 have O1 := Q
 clear Q
 have Q := qh (fun y hy => (E1.out y hy).from bl)
 clear E1
 have E1 := Q
 clear Q
 have Q := qh (OB.out.from bl)
 clear OB
 have OB := Q
 clear Q
 have Q := qh (OC.out.from bl)
 clear OC
 have OC := Q
 clear Q
 have Q := qh (C1.out.trans (bl.mono C1.out.size))
 clear C1
 have C1 := Q
 clear Q
 refine hK.out _ _ (aa bl hS hS.lt) (fun hS => ?_)
 clear hK Kq bl
 go_simp
 refine rd 13 rfl (fun Kq hK => ?_)
 have RL := qh (show aK eB.cells 1129 (Ui.alloc (.cells (cellsOf eB.cells [(⟨yb, yc, none, 0⟩ : eB)]).toArray 340)) (Ui.heap.size + 1) (some ⟨Ui.heap.size, 0, none⟩) 1 [(⟨yb, yc, none, 0⟩ : eB)] from ⟨Nat.le_refl _, by decide, fun _ => ⟨_, _, rfl, by omega, au.ah LB.out⟩⟩)
 refine Jn.step_append rfl Xc bz HZB.out.1 HZB.out.2 (.tmp 16) (.tmp 28) rfl w.heap.size (.slice A1 ys.length c1) ys rfl O1.out _ (some ⟨Ui.heap.size, 0, none⟩) 1 [(⟨yb, yc, none, 0⟩ : eB)] rfl RL.out (by have := ZH.out; simp; omega) C1.out.size ?_
 intro v9 w9 o9 g9
 have E9 := qh (show ∀ y ∈ ys ++ [(⟨yb, yc, none, 0⟩ : eB)], wZ w.heap.size w9 y from fun y hy => by
  rcases List.mem_append.1 hy with hy | hy
  ·exact (E1.out y hy).oH g9 O1.out (by decide) (by decide) (by decide) (by decide) (by decide)
  ·rw [List.mem_singleton] at hy
   subst hy
   exact ⟨OB.out.oH g9 O1.out (by decide) (by decide) (by decide) (by decide), OC.out.oH g9 O1.out (by decide) (by decide), Nat.zero_le _⟩)
 have B9 := qh (C1.out.trans ((Below.refl _ _).grown g9 C1.out.size (iG O1.out)))
 obtain ⟨A9, c9, rfl⟩ := ek o9
 have O9 := qh o9
 refine hK.out _ _ (aa ((Below.refl _ _).grown g9 C1.out.size (iG O1.out)) hS HG.out) (fun hS => ?_)
 clear hK Kq o9 g9 RL LB O1 E1 OB OC C1
 go_simp
 refine rd 14 rfl (fun Kq hK => ?_)
 go_simp
 refine hK.out _ _ hS (fun hS => ?_)
 clear hK Kq
 go_simp
 refine wpAnyH_done (by kernel_rfl) ?_ _
 clear hS
 obtain ⟨YS, hY⟩ : ∃ YS, ys ++ [(⟨yb, yc, none, 0⟩ : eB)] = YS := ⟨_, rfl⟩
 have HY := qh hY
 rw [hY] at O9 E9
 rw [show ys.length + 1 = YS.length by rw [← hY, List.length_append]; rfl]
 clear hY
 go_wp2_with fail
 go_ret
 refine ⟨A9, c9, YS, ?_, rfl, O9.out, E9.out, B9.out⟩
 rw [← HY.out, List.map_append, YG.out, ← GK, List.length_map, HN.out, HJ.out, List.map_drop]
 show _ ++ [(yb.B, yc.C)] = _
 rw [HYB.out, HYC.out]
end
section
open Go.RowKit
abbrev qo (h : Nat) (l : List aS) : aS := atR fC ai h l
structure W9 (w : World) (x : aS) (W : World) : Prop where
 below : Below w.heap.size w W
 r : ax W w.heap.size 26 (ak ai).toArray
 x : ax W (w.heap.size + 1) 26 (ak x).toArray
theorem W9.call {w W W' : World} {x : aS} (h : W9 w x W) (hb : Below W.heap.size W W') : W9 w x W' :=
 ⟨h.below.trans (hb.mono h.below.size), aa hb h.r h.r.lt, aa hb h.x h.x.lt⟩
theorem IG (A : Option Addr) (c : Nat) (h : Nat) (hh : h ≤ 40) (w : World) :
 Calls Tryz.prog 10 #[.slice A 0 c, .int .i64 h] w fun e w' => e = .returned (.agg (ak (gQ h)).toArray) ∧ Below w.heap.size w w' := by
 go_enter Tryz.func10, Tryz.ntmps10
 go_wp2_with (first
  | ((with_reducible refine bW 11 ?_); refine bu rfl 26 #[] rfl (ak ai).toArray (by kernel_rfl) ?_)
  | ((with_reducible refine ag 5 11 ?_); refine bL.aj rfl (.tmp 5) (.tmp 11) rfl rfl (w.heap.size + 1) ai rfl rfl 26 _ (bg (g := w.heap.size + 1) 26 _ (by simp)) rfl ?_; intro w2 o2 b2
     have A0 := qh (show W9 w (gQ 0) w2 from ⟨(((Below.refl w.heap.size w).alloc (Nat.le_refl _) _).alloc (by simp) _).trans (o2.below (by simp)), o2.blk ((show ax (w.alloc _) w.heap.size 26 (ak ai).toArray from ax.new w 26 (ak ai).toArray).alloc _) (by simp), b2⟩)
     clear o2 b2))
 go_loopw [6] (fun i wr => ∃ n : Nat, n ≤ h ∧ i = .int .i64 n ∧ Hid (W9 w (gQ n) wr)) (fun i _ => h - (intOf i).toNat)
 case atStart => exact ⟨0, by omega, rfl, A0⟩
 case round =>
  clear A0
  obtain ⟨n, hn, rfl, AS⟩ := hrel
  by_cases hlt : n < h
  ·have hd : decide ((n : Int) < (h : Int)) = true := by simp; omega
   have X0 := qh (show au wr (w.heap.size + 1) 0 (ak (gQ n)) from au.ah AS.out.x)
   go_wp2_with (first
    | ((with_reducible refine az 5 ?_); refine bL.af rfl (.tmp 5) rfl (w.heap.size + 1) 0 rfl (gQ n) X0.out ?_))
   refine (Cf (gQ n) (gQ n) _).mono ?_
   rintro e x1 ⟨rfl, b1⟩
   have A1 := qh (AS.out.call b1)
   clear b1 X0 AS
   go_wp2_with ((with_reducible refine ag 5 19 ?_); refine bL.aj rfl (.tmp 5) (.tmp 19) rfl rfl (w.heap.size + 1) (gQ (n + 1)) rfl rfl 26 _ A1.out.x (by rw [bL.arr]) ?_; intro w3 o3 b3
                have A3 := qh (show W9 w (gQ (n + 1)) w3 from ⟨A1.out.below.trans (o3.below (by simp)), o3.blk A1.out.r (by simp), b3⟩)
                clear o3 b3)
   go_roundw
   case rel => exact ⟨n + 1, by omega, by go_num, A3⟩
   case measure => simp [intOf]; omega
  ·obtain rfl : n = h := by omega
   have hd : decide ((n : Int) < (n : Int)) = false := by simp
   go_wp2_with (first
    | ((with_reducible refine az 5 ?_); refine bL.af rfl (.tmp 5) rfl (w.heap.size + 1) 0 rfl (gQ n) (au.ah AS.out.x) ?_)
    | ((with_reducible refine ag 4 20 ?_); refine bL.aj rfl (.tmp 4) (.tmp 20) rfl rfl w.heap.size (gQ n) rfl rfl 26 _ AS.out.r (by rw [bL.arr]) ?_; intro w7 o7 b7))
   exact bodyPost_ret (aU rfl _ _ w.heap.size 26 _ (0, 0) _ rfl b7 Tryz.underlying26 rfl (by rw [bL.arr]; kernel_rfl)) rfl ⟨rfl, AS.out.below.trans (o7.below (by simp))⟩
theorem M3 (A : Option Addr) (c : Nat) (l : List aS) (w : World) (hl : aK ak 32 w w.heap.size A c l) (hn : 0 < l.length) :
 Calls Tryz.prog 10 #[.slice A l.length c, .int .i64 0] w fun e w' => e = .returned (.agg (ak (qo 0 l)).toArray) ∧ Below w.heap.size w w' := by
 obtain ⟨g, o, hA, hg, hc⟩ := hl.at aC hn
 obtain ⟨x, hx⟩ : ∃ x, l[0] = x := ⟨_, rfl⟩
 have he : qo 0 l = x := by
  cases l with
  | nil => simp at hn
  | cons a l => exact hx
 rw [hx] at hc
 rw [he]
 subst hA
 have hd : ((l.length : Int) == 0) = false := beq_eq_false_iff_ne.mpr (by omega)
 have hi : (0 : Int) < (l.length : Int) := by omega
 have C0 := qh (show au (w.alloc (.cells (ak ai).toArray 26)) g o (ak x) from by
  have := hc.below ((Below.refl _ _).alloc (Nat.le_refl _) (.cells (ak ai).toArray 26)) hg
  simpa using this)
 clear hl hc hg hx he
 go_enter Tryz.func10, Tryz.ntmps10
 go_wp2_with (first
  | ((with_reducible refine az 24 ?_); refine bL.af rfl (.tmp 24) rfl g o rfl x C0.out ?_)
  | ((with_reducible refine ag 4 25 ?_); refine bL.aj rfl (.tmp 4) (.tmp 25) rfl rfl w.heap.size x rfl rfl 26 _ (bg (g := w.heap.size) 26 _ (by simp)) rfl ?_; intro w7 o7 b7))
 exact bodyPost_ret (aU rfl _ _ w.heap.size 26 _ (0, 0) _ rfl b7 Tryz.underlying26 rfl (by rw [bL.arr]; kernel_rfl)) rfl ⟨rfl, ((Below.refl _ _).alloc (Nat.le_refl _) _).trans (o7.below (by simp))⟩
theorem M4 (m : Nat) (hm : m + 1 ≤ 40)
 (ih : ∀ (A : Option Addr) (c : Nat) (l : List aS) (w : World), aK ak 32 w w.heap.size A c l → l.length ≤ 100000 → Calls Tryz.prog 10 #[.slice A l.length c, .int .i64 m] w fun e w' => e = .returned (.agg (ak (qo m l)).toArray) ∧ Below w.heap.size w w')
 (A : Option Addr) (c : Nat) (l : List aS) (w : World) (hl : aK ak 32 w w.heap.size A c l) (hn : 0 < l.length) (hn2 : l.length ≤ 100000) (half : Nat) (yS : half = min l.length (2 ^ m)) :
 Calls Tryz.prog 10 #[.slice A l.length c, .int .i64 ((m : Int) + 1)] w fun e w' => e = .returned (.agg (ak (qo (m + 1) l)).toArray) ∧ Below w.heap.size w w' := by
 have hle := hl.le
 have hs1 : ∀ W, (Instr.slice 22 (.slice A l.length c) none (some (.int .i64 (half : Int))) none).run Tryz.prog W = .ok (.slice A half c) W := fun W => eH.tT W A l.length c half (by omega)
 have hs2 : ∀ W, (Instr.slice 22 (.slice A l.length c) (some (.int .i64 (half : Int))) none none).run Tryz.prog W = .ok (.slice (iN 32 c half A) (l.length - half) (c - half)) W := fun W => eH.fG W A l.length c half (by omega)
 have e1 : (l.take half).length = half := by rw [List.length_take]; omega
 have e2 : (l.drop half).length = l.length - half := List.length_drop
 have L1 := qh (show ∀ W, Below w.heap.size w W → Calls Tryz.prog 10 #[.slice A half c, .int .i64 m] W fun e w' => e = .returned (.agg (ak (qo m (l.take half))).toArray) ∧ Below W.heap.size W w' from fun W hb => by
  have := ih A c (l.take half) W (((hl.below hb).more hb.size).take aC half) (by omega)
  rwa [e1] at this)
 have L2 := qh (show ∀ W, Below w.heap.size w W → Calls Tryz.prog 10 #[.slice (iN 32 c half A) (l.length - half) (c - half), .int .i64 m] W fun e w' => e = .returned (.agg (ak (qo m (l.drop half))).toArray) ∧ Below W.heap.size W w' from fun W hb => by
  have := ih (iN 32 c half A) (c - half) (l.drop half) W (((hl.below hb).more hb.size).drop aC half (by omega)) (by omega)
  rwa [e2] at this)
 have HE := qh (show fC (qo m (l.take half)) (qo m (l.drop half)) = qo (m + 1) l by
  show _ = fC (qo m (l.take (2 ^ m))) (qo m (l.drop (2 ^ m)))
  by_cases h : l.length ≤ 2 ^ m
  ·rw [List.take_of_length_le (i := 2 ^ m) h, List.drop_of_length_le (i := 2 ^ m) h, show half = l.length by omega, List.take_length, List.drop_length]
  ·rw [show half = 2 ^ m by omega])
 have hd : ((l.length : Int) == 0) = false := beq_eq_false_iff_ne.mpr (by omega)
 have hd1 : ((m : Int) + 1 == 0) = false := beq_eq_false_iff_ne.mpr (by omega)
 obtain ⟨ka, hka⟩ : ∃ ka, qo m (l.take half) = ka := ⟨_, rfl⟩
 obtain ⟨kb, hkb⟩ : ∃ kb, qo m (l.drop half) = kb := ⟨_, rfl⟩
 rw [hka] at L1 HE
 rw [hkb] at L2 HE
 obtain ⟨kc, hkc⟩ : ∃ kc, qo (m + 1) l = kc := ⟨_, rfl⟩
 rw [hkc] at HE ⊢
 clear hl hle e1 e2 hka hkb hkc ih
 by_cases h20 : m + 1 ≤ 20
 ·have hd2 : decide ((m : Int) + 1 ≤ 20) = true := by simp; omega
  have hp : 2 ^ m ≤ 2 ^ 19 := Nat.pow_le_pow_right (by decide) (by omega)
  have hmin : min (l.length : Int) (wrap64 (2 ^ m)) = (half : Int) := by
   have h2 : (2 : Int) ^ m = ((2 ^ m : Nat) : Int) := by norm_cast
   have h3 : wrap64 ((2 ^ m : Nat) : Int) = ((2 ^ m : Nat) : Int) := by unfold wrap64; omega
   rw [h2, h3]
   omega
  have hwm : IntKind.i64.wrap (m : Int) = (m : Int) := by rw [IntKind.wrap_i64]; omega
  clear hp yS
  go_enter Tryz.func10, Tryz.ntmps10
  go_wp2_with fail
  have B0 := qh (show Below w.heap.size w (w.alloc (.cells (ak ai).toArray 26)) from (Below.refl _ _).alloc (Nat.le_refl _) _)
  have R0 := qh (ax.new w 26 (ak ai).toArray)
  obtain ⟨W0, hW0⟩ : ∃ W0, (w.alloc (.cells (ak ai).toArray 26)) = W0 := ⟨_, rfl⟩
  rw [hW0] at B0 R0
  change Code.wp _ _ _ _ (w.alloc (.cells (ak ai).toArray 26))
  rw [hW0]
  clear hW0
  have FR := qh (show Below w.heap.size w W0.drew from B0.out.drew)
  refine wp_region_held_drew (S := fun _ => True) (by kernel_rfl) trivial ?_
  intro hS
  refine tkp 0 (.slice A l.length c) rfl hS ?_
  go_simp
  refine tkp 1 (.int .i64 half) rfl hS ?_
  go_simp
  refine tkp 2 (.slice A half c) rfl hS ?_
  go_simp
  refine tkp 3 (.int .i64 ((m : Int) + 1)) rfl hS ?_
  go_simp
  refine tkp 4 (.int .i64 m) rfl hS ?_
  go_simp
  refine tkp 6 (.slice A l.length c) rfl hS ?_
  go_simp
  refine tkp 7 (.int .i64 half) rfl hS ?_
  go_simp
  refine tkp 8 (.slice (iN 32 c half A) (l.length - half) (c - half)) rfl hS ?_
  go_simp
  refine tkp 9 (.int .i64 ((m : Int) + 1)) rfl hS ?_
  go_simp
  refine tkp 10 (.int .i64 m) rfl hS ?_
  go_simp
  refine rd 5 rfl (fun Kq hK => ?_)
  go_simp
  with_reducible refine (L1.out _ FR.out).mono ?_
  rintro e x1 ⟨rfl, b1⟩
  have B1 := qh (FR.out.trans (b1.mono FR.out.size))
  have R1 := qh (aa b1 R0.out R0.out.lt)
  refine hK.out _ _ trivial (fun hS => ?_)
  clear hK Kq b1
  refine rd 11 rfl (fun Kq hK => ?_)
  go_simp
  with_reducible refine (L2.out _ B1.out).mono ?_
  rintro e x2 ⟨rfl, b2⟩
  have B2 := qh (B1.out.trans (b2.mono B1.out.size))
  have R2 := qh (aa b2 R1.out R1.out.lt)
  refine hK.out _ _ trivial (fun hS => ?_)
  clear hK Kq b2
  refine rd 12 rfl (fun Kq hK => ?_)
  go_simp
  with_reducible refine (Cf ka kb _).mono ?_
  rintro e x3 ⟨rfl, b3⟩
  rw [HE.out]
  have B3 := qh (B2.out.trans (b3.mono B2.out.size))
  have R3 := qh (aa b3 R2.out R2.out.lt)
  refine hK.out _ _ trivial (fun hS => ?_)
  clear hK Kq b3
  refine rd 13 rfl (fun Kq hK => ?_)
  refine bL.aH rfl (.tmp 4) (.tmp 47) rfl rfl w.heap.size kc rfl rfl 26 _ R3.out (by rw [bL.arr]) ?_
  intro w4 o4 b4
  have B4 := qh (B3.out.trans (o4.below (by simp)))
  refine hK.out _ _ trivial (fun _ => ?_)
  clear hK Kq hS
  refine wpAnyH_done (by kernel_rfl) ?_ _
  go_wp2_with fail
  exact bodyPost_ret (aU rfl _ _ w.heap.size 26 _ (0, 0) _ rfl b4 Tryz.underlying26 rfl (by rw [bL.arr]; kernel_rfl)) rfl ⟨rfl, B4.out⟩
 ·have hd2 : decide ((m : Int) + 1 ≤ 20) = false := by simp; omega
  have hp : 2 ^ 20 ≤ 2 ^ m := Nat.pow_le_pow_right (by decide) (by omega)
  obtain rfl : half = l.length := by omega
  rw [Nat.sub_self] at L2 hs2
  have hwm : IntKind.i64.wrap (m : Int) = (m : Int) := by rw [IntKind.wrap_i64]; omega
  clear hp yS
  go_enter Tryz.func10, Tryz.ntmps10
  go_wp2_with fail
  have B0 := qh (show Below w.heap.size w (w.alloc (.cells (ak ai).toArray 26)) from (Below.refl _ _).alloc (Nat.le_refl _) _)
  have R0 := qh (ax.new w 26 (ak ai).toArray)
  obtain ⟨W0, hW0⟩ : ∃ W0, (w.alloc (.cells (ak ai).toArray 26)) = W0 := ⟨_, rfl⟩
  rw [hW0] at B0 R0
  change Code.wp _ _ _ _ (w.alloc (.cells (ak ai).toArray 26))
  rw [hW0]
  clear hW0
  have FR := qh (show Below w.heap.size w W0.drew from B0.out.drew)
  refine wp_region_held_drew (S := fun _ => True) (by kernel_rfl) trivial ?_
  intro hS
  refine tkp 0 (.slice A l.length c) rfl hS ?_
  go_simp
  refine tkp 1 (.int .i64 l.length) rfl hS ?_
  go_simp
  refine tkp 2 (.slice A l.length c) rfl hS ?_
  go_simp
  refine tkp 3 (.int .i64 ((m : Int) + 1)) rfl hS ?_
  go_simp
  refine tkp 4 (.int .i64 m) rfl hS ?_
  go_simp
  refine tkp 6 (.slice A l.length c) rfl hS ?_
  go_simp
  refine tkp 7 (.int .i64 l.length) rfl hS ?_
  go_simp
  refine tkp 8 (.slice (iN 32 c l.length A) 0 (c - l.length)) rfl hS ?_
  go_simp
  refine tkp 9 (.int .i64 ((m : Int) + 1)) rfl hS ?_
  go_simp
  refine tkp 10 (.int .i64 m) rfl hS ?_
  go_simp
  refine rd 5 rfl (fun Kq hK => ?_)
  go_simp
  with_reducible refine (L1.out _ FR.out).mono ?_
  rintro e x1 ⟨rfl, b1⟩
  have B1 := qh (FR.out.trans (b1.mono FR.out.size))
  have R1 := qh (aa b1 R0.out R0.out.lt)
  refine hK.out _ _ trivial (fun hS => ?_)
  clear hK Kq b1
  refine rd 11 rfl (fun Kq hK => ?_)
  go_simp
  with_reducible refine (L2.out _ B1.out).mono ?_
  rintro e x2 ⟨rfl, b2⟩
  have B2 := qh (B1.out.trans (b2.mono B1.out.size))
  have R2 := qh (aa b2 R1.out R1.out.lt)
  refine hK.out _ _ trivial (fun hS => ?_)
  clear hK Kq b2
  refine rd 12 rfl (fun Kq hK => ?_)
  go_simp
  with_reducible refine (Cf ka kb _).mono ?_
  rintro e x3 ⟨rfl, b3⟩
  rw [HE.out]
  have B3 := qh (B2.out.trans (b3.mono B2.out.size))
  have R3 := qh (aa b3 R2.out R2.out.lt)
  refine hK.out _ _ trivial (fun hS => ?_)
  clear hK Kq b3
  refine rd 13 rfl (fun Kq hK => ?_)
  refine bL.aH rfl (.tmp 4) (.tmp 47) rfl rfl w.heap.size kc rfl rfl 26 _ R3.out (by rw [bL.arr]) ?_
  intro w4 o4 b4
  have B4 := qh (B3.out.trans (o4.below (by simp)))
  refine hK.out _ _ trivial (fun _ => ?_)
  clear hK Kq hS
  refine wpAnyH_done (by kernel_rfl) ?_ _
  go_wp2_with fail
  exact bodyPost_ret (aU rfl _ _ w.heap.size 26 _ (0, 0) _ rfl b4 Tryz.underlying26 rfl (by rw [bL.arr]; kernel_rfl)) rfl ⟨rfl, B4.out⟩
theorem Us (h : Nat) (hh : h ≤ 40) : ∀ (A : Option Addr) (c : Nat) (l : List aS) (w : World), aK ak 32 w w.heap.size A c l → l.length ≤ 100000 →
 Calls Tryz.prog 10 #[.slice A l.length c, .int .i64 h] w fun e w' => e = .returned (.agg (ak (qo h l)).toArray) ∧ Below w.heap.size w w' := by
 induction h with
 | zero =>
  intro A c l w hl hn
  by_cases h0 : l = []
  ·subst h0
   rw [show qo 0 [] = gQ 0 from rfl]
   exact IG A c 0 (by omega) w
  ·exact M3 A c l w hl (List.length_pos_iff.2 h0)
 | succ m ih =>
  intro A c l w hl hn
  by_cases h0 : l = []
  ·subst h0
   rw [show qo (m + 1) [] = gQ (m + 1) from CQ fC ai (m + 1)]
   exact IG A c (m + 1) hh w
  ·exact M4 m hh (ih (by omega)) A c l w hl (List.length_pos_iff.2 h0) hn _ rfl
end
section
open Go.RowKit
abbrev Nk (l : List aS) (i : Nat) : aS := partOf fC ai l i
def FP (l : List aS) (n : Nat) (h : n ≤ 32) (hl : l.length < 4294967296) : fD := ⟨l.length, (List.range n).map (Nk l) ++ List.replicate (32 - n) ai, hl, by simp; omega⟩
def LU (l : List aS) (hl : l.length < 4294967296) : fD := ⟨l.length, (List.range 32).map (Nk l), hl, by simp⟩
theorem Sq (l : List aS) (hl : l.length < 4294967296) : FP l 32 (by omega) hl = LU l hl := by
 unfold FP LU
 simp
theorem Ej (l : List aS) (hl : l.length < 4294967296) : (LU l hl).V = Ei fC ai l := rfl
theorem Sn (l : List aS) (n : Nat) (h : n < 32) (hl : l.length < 4294967296) : (FP l n (by omega) hl).wR n (Nk l n) = FP l (n + 1) (by omega) hl := by
 unfold FP fD.wR
 congr 1
 simp only
 rw [List.set_append_right _ _ (by simp), show (List.map (Nk l) (List.range n)).length = n by simp, Nat.sub_self, show 32 - n = (32 - (n + 1)) + 1 by omega, List.replicate_succ, List.set_cons_zero, List.range_succ (n := n), List.map_append]
 simp
theorem ND (l : List aS) (n : Nat) (h : n < 32) (hl : l.length < 4294967296) (hb : gJ l.length n = false) : FP l n (by omega) hl = FP l (n + 1) (by omega) hl := by
 unfold FP
 congr 1
 rw [show 32 - n = (32 - (n + 1)) + 1 by omega, List.replicate_succ, List.range_succ (n := n), List.map_append, List.append_assoc, List.map_cons, List.map_nil, show Nk l n = ai from Av fC ai l n hb]
 rfl
end
section
open Go.RowKit
section
variable {P : Program} (w : World) {t tk ti e : TypeId}
theorem Ca {n k : Nat} (hk : P.underlying tk = some (.array n e)) (hct : P.cellsOf tk = k) (cs : Array Value) (off : Nat) : (part tk cs off).run P w = .ok (.agg (cs.extract off (off + k))) w := by
 obtain ⟨i, hi⟩ := info_of_underlying hk
 simp [part, isAgg, run_underlying hk, run_sizeOf w hi, hct]
end
theorem cells_extract (l : List aS) (i : Nat) (hi : i < l.length) : (cellsOf ak l).toArray.extract (i * 32) (i * 32 + 32) = ay l[i].1 := by
 rw [← dQ]
 apply Array.toList_inj.1
 rw [List.extract_toArray, List.extract_eq_take_drop]
 have e1 : l.take i ++ l[i] :: l.drop (i + 1) = l := by rw [List.getElem_cons_drop, List.take_append_drop]
 have hl : (cellsOf ak (l.take i)).length = i * 32 := by rw [aT aC, List.length_take]; omega
 have hk : (ak l[i]).length = 32 := aC _
 have e2 : cellsOf ak l = cellsOf ak (l.take i) ++ (ak l[i] ++ cellsOf ak (l.drop (i + 1))) := by
  conv => lhs; rw [← e1]
  rw [bS]
  rfl
 rw [e2, List.drop_append, List.drop_of_length_le (by omega), List.nil_append, hl, Nat.sub_self, List.drop_zero, show i * 32 + 32 - i * 32 = 32 by omega, List.take_append_of_le_length (by omega), List.take_of_length_le (by omega)]
end
section
open Go.RowKit
def Wz : Prop := ∀ (w : World), aM w → Calls Tryz.prog 20 #[] w fun e w' => e = .returned (.agg (xu 32 (by omega)).cells.toArray) ∧ Below w.heap.size w w'
def WE : Prop := ∀ (t : fD) (k : aS) (w : World), aM w → Calls Tryz.prog 15 #[.agg t.cells.toArray, .agg (ak k).toArray] w fun e w' => e = .returned (.tuple #[.agg (nT t k).1.cells.toArray, .int .i64 (nT t k).2]) ∧ Below w.heap.size w w'
def We : Prop := ∀ (t : fD) (w : World), aM w → Calls Tryz.prog 9 #[.agg t.cells.toArray] w fun e w' => e = .returned (.agg (ak (pF t 32)).toArray) ∧ Below w.heap.size w w'
def YC : Prop := ∀ (A : Option Addr) (c : Nat) (l : List aS) (hl : l.length ≤ 100) (w : World), aK ak 32 w w.heap.size A c l → aM w → Calls Tryz.prog 6 #[.slice A l.length c] w fun e w' => e = .returned (.agg (LU l (by omega)).cells.toArray) ∧ Below w.heap.size w w'
def WG : Prop := ∀ (t : fD) (A : Option Addr) (c : Nat) (l : List aS) (w : World), l.length ≤ 100 → aK ak 32 w w.heap.size A c l → aM w → Calls Tryz.prog 5 #[.agg t.cells.toArray, .slice A l.length c] w fun e w' => e = .returned (.tuple #[.agg (allT t l).1.cells.toArray, .int .i64 (allT t l).2]) ∧ Below w.heap.size w w'
theorem aM.on {w : World} (h : aM w) : ∀ W, Below w.heap.size w W → aM W := fun _ hb => h.below hb h.sH h.qL
end
section
open Go.RowKit
theorem qI (a b : aS) (w : World) (hR : aM w) :
 Calls Tryz.prog 21 #[.agg (ak a).toArray, .agg (ak b).toArray] w fun e w' => e = .returned (.agg (ak (fC a b)).toArray) ∧ Below w.heap.size w w' := by
 rw [dQ, dQ, dQ]
 exact Nq a.1 b.1 a.2 b.2 w hR
theorem xK (c n : Nat) (hc : c < 4294967296) (hn : n < 32) (r : Bool) (hr : gJ c n = r) (w : World) :
 Calls Tryz.prog 18 #[.int .u32 c, .int .i64 n] w fun e w' => e = .returned (.bool r) ∧ w' = w := by
 have hbt := Qq c n hc
 rw [hr] at hbt
 have hge : (0 : Int) ≤ (n : Int) := by omega
 have hi1 : (n : Int) < 32 := by omega
 clear hr
 go_enter Tryz.func18, Tryz.ntmps18
 go_wp2_with fail
 go_ret
 exact ⟨rfl, rfl⟩
theorem Nv : Wz := by
 intro w hR
 have HR := qh hR
 obtain ⟨Z, hZ, hz, hzs, hzn⟩ := bB Da Ir
 have HZ := qh hZ
 have HS := qh hzs
 have K2 := qh (show ax ((w.alloc (.cells Z 62)).alloc (.cells Z 62)) (w.heap.size + 1) 62 (xu 0 (by omega)).cells.toArray from by
  rw [Ov, ← hZ]
  have := ax.new (w.alloc (.cells Z 62)) 62 Z
  rwa [World.size_alloc] at this)
 have R2 := qh (show ax ((w.alloc (.cells Z 62)).alloc (.cells Z 62)) w.heap.size 62 Z from (ax.new w 62 Z).alloc (.cells Z 62))
 have B2 := qh (show Below w.heap.size w ((w.alloc (.cells Z 62)).alloc (.cells Z 62)) from ((Below.refl w.heap.size w).alloc (Nat.le_refl _) (.cells Z 62)).alloc (by simp) (.cells Z 62))
 clear hZ hR
 go_enter Tryz.func20, Tryz.ntmps20
 go_wp2_with fail
 clear hz hzn
 go_loopw [3] (fun i wr => ∃ (k : Nat) (hk : k ≤ 32), i = .int .i64 k ∧ Hid (ax wr (w.heap.size + 1) 62 (xu k hk).cells.toArray) ∧ Hid (ax wr w.heap.size 62 Z) ∧ Hid (Below w.heap.size w wr)) (fun i _ => 32 - (intOf i).toNat)
 case atStart => exact ⟨0, by omega, rfl, K2, R2, B2⟩
 case round =>
  clear K2 R2 B2
  obtain ⟨k, hk, rfl, KE, KZ, KB⟩ := hrel
  by_cases hlt : k < 32
  ·have hd : decide ((k : Int) < 32) = true := by simp; omega
   go_wp2_with fail
   have hge : (0 : Int) ≤ (k : Int) := by omega
   have hi1 : (k : Int) < 33 := by omega
   have hi2 : (k : Int) + 1 < 33 := by omega
   have hi3 : (0 : Int) ≤ (k : Int) + 1 := by omega
   have hwr : IntKind.i64.wrap ((k : Int) + 1) = (k : Int) + 1 := by rw [IntKind.wrap_i64]; omega
   have htn : ((k : Int) + 1).toNat = k + 1 := by omega
   have E0 := qh (show WA w Z (xu k hk) wr from ⟨KB.out, KZ.out, KE.out⟩)
   refine wp_region_held_drew (S := fun W => au W (w.heap.size + 1) (k * 32) (ak (gQ k))) (by kernel_rfl) (Ow hk E0.out.drew.e) ?_
   clear KE KZ KB
   intro hS
   refine tkp 0 (.int .i64 k) rfl hS ?_
   go_simp
   refine tkp 1 (.int .i64 ((k : Int) + 1)) rfl hS ?_
   go_simp
   refine tkp 2 (.int .i64 k) rfl hS ?_
   go_simp
   refine tkp 3 (.pointer (some ⟨w.heap.size + 1, k * 32, none⟩)) rfl hS ?_
   go_simp
   refine tk 4 (.agg (ak (gQ k)).toArray) rfl (bL.aB (by rfl) (.tmp 9) rfl (w.heap.size + 1) (k * 32) rfl (gQ k) (fun _ h => h)) hS ?_
   go_simp
   refine tkp 5 (.int .i64 k) rfl hS ?_
   go_simp
   refine tkp 6 (.pointer (some ⟨w.heap.size + 1, k * 32, none⟩)) rfl hS ?_
   go_simp
   refine tk 7 (.agg (ak (gQ k)).toArray) rfl (bL.aB (by rfl) (.tmp 12) rfl (w.heap.size + 1) (k * 32) rfl (gQ k) (fun _ h => h)) hS ?_
   go_simp
   refine rd 8 rfl (fun Kq hK => ?_)
   go_simp
   with_reducible refine (qI (gQ k) (gQ k) _ (HR.out.on _ E0.out.drew.below)).mono ?_
   rintro e x1 ⟨rfl, b1⟩
   have E1 := qh (E0.out.drew.call b1)
   refine hK.out _ _ (Ow hk E1.out.e) (fun hS => ?_)
   clear hK Kq b1 E0
   refine tkp 9 (.pointer (some ⟨w.heap.size + 1, (k + 1) * 32, none⟩)) rfl hS ?_
   go_simp
   refine rd 10 rfl (fun Kq hK => ?_)
   refine bL.fu rfl (.tmp 15) (.tmp 14) rfl rfl (w.heap.size + 1) ((k + 1) * 32) (gQ (k + 1)) rfl rfl 62 _ E1.out.e (by rw [xg.len]; omega) ?_
   intro w4 o4 b4
   rw [xg.Rw _ (k + 1) (by omega), SA k hlt] at b4
   have K4 := qh b4
   have Z4 := qh (o4.blk E1.out.z (by simp))
   have B4 := qh (E1.out.below.trans (o4.below (by simp)))
   refine hK.out _ _ ?_ (fun _ => ?_)
   ·have := (xu (k + 1) (by omega)).at (au.ah K4.out) k (by omega)
    rwa [SB k hlt] at this
   clear hK Kq hS o4 b4 E1
   refine wpAnyH_done (by kernel_rfl) ?_ _
   go_wp2_with fail
   go_roundw
   case rel => exact ⟨k + 1, by omega, by go_num, K4, Z4, B4⟩
   case measure => simp [intOf]; omega
  ·obtain rfl : k = 32 := by omega
   go_wp2_with (first
    | ((with_reducible refine az 1 ?_); refine Ze.af rfl (.tmp 1) rfl (w.heap.size + 1) 0 rfl (xu 32 hk) (by simpa using au.ah KE.out) ?_)
    | ((with_reducible refine ag 0 17 ?_); refine Ze.aj rfl (.tmp 0) (.tmp 17) rfl rfl w.heap.size (xu 32 hk) rfl rfl 62 Z KZ.out (by rw [HS.out]) ?_; intro w2 o2 b2))
   exact bodyPost_ret (aU rfl _ _ w.heap.size 62 _ (0, 0) _ rfl b2 Tryz.underlying62 rfl (by rw [Ze.arr]; kernel_rfl)) rfl ⟨rfl, KB.out.trans (o2.below (by simp))⟩
end
section
open Go.RowKit
structure Ik (w : World) (Z : Array Value) (t : fD) (x : aS) (W : World) : Prop where
 below : Below w.heap.size w W
 t : ax W w.heap.size 29 t.cells.toArray
 r : ax W (w.heap.size + 1 + 1) 29 Z
 x : ax W (w.heap.size + 1 + 1 + 1) 26 (ak x).toArray
theorem Ik.call {w W W' : World} {Z : Array Value} {t : fD} {x : aS} (h : Ik w Z t x W) (hb : Below W.heap.size W W') : Ik w Z t x W' :=
 ⟨h.below.trans (hb.mono h.below.size), aa hb h.t h.t.lt, aa hb h.r h.r.lt, aa hb h.x h.x.lt⟩
theorem Ik.drew {w W : World} {Z : Array Value} {t : fD} {x : aS} (h : Ik w Z t x W) : Ik w Z t x W.drew := ⟨h.below.drew, h.t, h.r, h.x⟩
theorem J7 (t : fD) (k : aS) (w : World) (hf : t.c = 4294967295) :
 Calls Tryz.prog 15 #[.agg t.cells.toArray, .agg (ak k).toArray] w fun e w' => e = .returned (.tuple #[.agg zT.cells.toArray, .int .i64 2]) ∧ Below w.heap.size w w' := by
 obtain ⟨Z, hZ, hz, hzs, hzn⟩ := bB gY jJ
 have HS := qh hzs
 have c0 := fD.c0 (au.ah (((ax.new w 29 t.cells.toArray).alloc (.cells (ak k).toArray 26)).alloc (.cells Z 29)))
 rw [hf] at c0
 clear hZ hzs
 go_enter Tryz.func15, Tryz.ntmps15
 go_wp2_with fail
 go_step3
 go_wp2_with (first
  | ((with_reducible refine bW 11 ?_); refine bu rfl 29 #[] rfl zT.cells.toArray (by kernel_rfl) ?_)
  | ((with_reducible refine ag 4 11 ?_); refine gz.aj rfl (.tmp 4) (.tmp 11) rfl rfl (w.heap.size + 1 + 1) zT rfl rfl 29 Z (by have := ax.new ((w.alloc (.cells t.cells.toArray 29)).alloc (.cells (ak k).toArray 26)) 29 Z; simpa only [World.size_alloc] using this) (by rw [HS.out]) ?_; intro w2 o2 b2))
 try rw [Exit.noGoto_ret]
 exact bodyPost_ret (bn rfl _ _ (w.heap.size + 1 + 1) 29 _ (0, 0) _ rfl b2 Tryz.underlying29 rfl (by rw [gz.arr]; kernel_rfl)) rfl ⟨rfl, ((((Below.refl w.heap.size w).alloc (Nat.le_refl _) _).alloc (by simp) _).alloc (by simp; omega) _).trans (o2.below (by simp; omega))⟩
theorem J6 (t : fD) (k : aS) (w : World) (hR : aM w) (hf : t.c ≠ 4294967295) :
 Calls Tryz.prog 15 #[.agg t.cells.toArray, .agg (ak k).toArray] w fun e w' => e = .returned (.tuple #[.agg (nT t k).1.cells.toArray, .int .i64 0]) ∧ Below w.heap.size w w' := by
 obtain ⟨Z, hZ, hz, hzs, hzn⟩ := bB gY jJ
 have HR := qh hR
 have HS := qh hzs
 have c0 := fD.c0 (au.ah (((ax.new w 29 t.cells.toArray).alloc (.cells (ak k).toArray 26)).alloc (.cells Z 29)))
 have hd : ((t.c : Int) == 4294967295) = false := beq_eq_false_iff_ne.mpr (by omega)
 have HF := qh hf
 have kA := qh (show au (((w.alloc (.cells t.cells.toArray 29)).alloc (.cells (ak k).toArray 26)).alloc (.cells Z 29)) (w.heap.size + 1) 0 (ak k) from au.ah (by have := (ax.new (w.alloc (.cells t.cells.toArray 29)) 26 (ak k).toArray).alloc (.cells Z 29); rwa [World.size_alloc] at this))
 have kT := qh (show ax (((w.alloc (.cells t.cells.toArray 29)).alloc (.cells (ak k).toArray 26)).alloc (.cells Z 29)) w.heap.size 29 t.cells.toArray from ((ax.new w 29 t.cells.toArray).alloc (.cells (ak k).toArray 26)).alloc (.cells Z 29))
 have kZ := qh (show ax (((w.alloc (.cells t.cells.toArray 29)).alloc (.cells (ak k).toArray 26)).alloc (.cells Z 29)) (w.heap.size + 1 + 1) 29 Z from by have := ax.new ((w.alloc (.cells t.cells.toArray 29)).alloc (.cells (ak k).toArray 26)) 29 Z; simpa only [World.size_alloc] using this)
 clear hZ hzs hf hR
 go_enter Tryz.func15, Tryz.ntmps15
 go_wp2_with fail
 go_step3
 go_wp2_with (first
  | ((with_reducible refine az 3 ?_); refine bL.af rfl (.tmp 3) rfl (w.heap.size + 1) 0 rfl k kA.out ?_)
  | ((with_reducible refine ag 6 12 ?_); refine bL.aj rfl (.tmp 6) (.tmp 12) rfl rfl (w.heap.size + 1 + 1 + 1) k rfl rfl 26 _ (bg (g := w.heap.size + 1 + 1 + 1) 26 _ (by simp)) rfl ?_; intro w2 o2 b2
     have A0 := qh (show Ik w Z t k w2 from ⟨(((((Below.refl w.heap.size w).alloc (Nat.le_refl _) _).alloc (by simp) _).alloc (by simp; omega) _).alloc (by simp; omega) _).trans (o2.below (by simp; omega)), o2.blk (kT.out.alloc _) (by simp <;> omega), o2.blk (kZ.out.alloc _) (by simp <;> omega), b2⟩)
     clear o2 b2))
 go_step3
 go_wp2_with fail
 clear hz hzn kA kT kZ c0 hd
 go_loopw [13] (fun i wr => ∃ (n : Nat) (hn : n ≤ 32), i = .int .i64 n ∧ Hid (∀ m, m < n → gJ t.c m = true) ∧ Hid (Ik w Z (jr t n hn) (wO t.P k n) wr)) (fun i _ => 32 - (intOf i).toNat)
 case atStart => exact ⟨0, by omega, rfl, qh (fun m hm => by omega), A0⟩
 case round =>
  clear A0
  obtain ⟨n, hn32, rfl, HB, AP⟩ := hrel
  have hn : n < 32 := by
   obtain ⟨j, hj, h0⟩ := AX (n := t.c) (by have := t.hc; have := HF.out; omega)
   rcases Nat.lt_or_ge n 32 with h | h
   ·exact h
   ·rw [HB.out j (by omega)] at h0; cases h0
  have hd : decide ((n : Int) < 32) = true := by simp; omega
  have c0 : wr.cell? ⟨w.heap.size, 0, none⟩ = some (.int .u32 t.c) := fD.c0 (t := jr t n hn32) (au.ah AP.out.t)
  have hge : (0 : Int) ≤ (n : Int) := by omega
  have hi1 : (n : Int) < 32 := by omega
  obtain ⟨r, hr⟩ : ∃ r, gJ t.c n = r := ⟨_, rfl⟩
  have HC := qh (xK t.c n t.hc hn r hr wr)
  go_wp2_with fail
  refine HC.out.mono ?_
  rintro e wq ⟨rfl, rfl⟩
  clear HC
  cases hq : r with
  | true =>
   subst hq
   have HB1 := qh hr
   clear hr
   go_wp2_with fail
   have AS := qh AP.out.drew
   obtain ⟨pn, hpn⟩ : ∃ pn, t.P.getD n ai = pn := ⟨_, rfl⟩
   have WQ := qh (show fC pn (wO t.P k n) = wO t.P k (n + 1) by rw [← hpn]; rfl)
   have HP := qh (show ∀ (W : World) (x : aS), Ik w Z (jr t n hn32) x W → au W w.heap.size (1 + n * 32) (ak pn) from fun W x h => by
    have := fD.c1 (t := jr t n hn32) (au.ah h.t) n hn
    rwa [KC t n hn, hpn] at this)
   clear hpn
   refine wp_region_held_drew (S := fun _ => True) (by kernel_rfl) trivial ?_
   intro hS
   refine tkp 0 (.int .i64 n) rfl hS ?_
   go_simp
   refine tkp 1 (.int .i64 n) rfl hS ?_
   go_simp
   refine tkp 2 (.pointer (some ⟨w.heap.size, 1, none⟩)) rfl hS ?_
   go_simp
   refine tkp 3 (.pointer (some ⟨w.heap.size, 1 + n * 32, none⟩)) rfl hS ?_
   go_simp
   refine tk 7 (.agg (ak ai).toArray) rfl (Or.inl ⟨by rfl, fun W _ => by go_simp; exact congrArg Array.toList vJ⟩) hS ?_
   go_simp
   refine tkp 9 (.pointer (some ⟨w.heap.size, 1, none⟩)) rfl hS ?_
   go_simp
   refine rd2 4 5 rfl (fun Kq hK => ?_) rfl (fun Kq hK => ?_)
   ·refine bL.nH (by rfl) (.tmp 28) rfl w.heap.size (1 + n * 32) rfl pn (HP.out _ _ AS.out) ?_
    refine hK.out _ _ trivial (fun hS => ?_)
    clear hK Kq
    go_simp
    refine rd 5 rfl (fun Kq hK => ?_)
    refine bL.nH (by rfl) (.tmp 6) rfl (w.heap.size + 1 + 1 + 1) 0 rfl (wO t.P k n) (by simpa using au.ah AS.out.x) ?_
    refine hK.out _ _ trivial (fun hS => ?_)
    clear hK Kq
    go_simp
    refine rd 6 rfl (fun Kq hK => ?_)
    go_simp
    with_reducible refine (qI pn (wO t.P k n) _ (HR.out.on _ AS.out.below)).mono ?_
    rintro e x1 ⟨rfl, b1⟩
    rw [WQ.out]
    have A1 := qh (AS.out.call b1)
    refine hK.out _ _ trivial (fun hS => ?_)
    clear hK Kq b1 AS HP
    refine rd 8 rfl (fun Kq hK => ?_)
    refine bL.aH rfl (.tmp 6) (.tmp 31) rfl rfl (w.heap.size + 1 + 1 + 1) (wO t.P k (n + 1)) rfl rfl 26 _ A1.out.x (by rw [bL.arr]) ?_
    intro w4 o4 b4
    have A4 := qh (show Ik w Z (jr t n hn32) (wO t.P k (n + 1)) w4 from ⟨A1.out.below.trans (o4.below (by simp <;> omega)), o4.blk A1.out.t (by simp <;> omega), o4.blk A1.out.r (by simp <;> omega), b4⟩)
    refine hK.out _ _ trivial (fun hS => ?_)
    clear hK Kq o4 b4 A1
    refine tkp 10 (.pointer (some ⟨w.heap.size, 1 + n * 32, none⟩)) rfl hS ?_
    go_simp
    refine rd 11 rfl (fun Kq hK => ?_)
    refine bL.fu rfl (.tmp 34) (.tmp 32) rfl rfl w.heap.size (1 + n * 32) ai rfl rfl 29 _ A4.out.t (by rw [fD.len]; omega) ?_
    intro w5 o5 b5
    rw [fD.tV _ n hn, AR t n hn] at b5
    have A5 := qh (show Ik w Z (jr t (n + 1) (by omega)) (wO t.P k (n + 1)) w5 from ⟨A4.out.below.trans (o5.below (by simp)), b5, o5.blk A4.out.r (by simp <;> omega), o5.blk A4.out.x (by simp <;> omega)⟩)
    refine hK.out _ _ trivial (fun _ => ?_)
    clear hK Kq hS o5 b5 A4
    refine wpAnyH_done (by kernel_rfl) ?_ _
    go_wp2_with fail
    go_roundw
    case rel => exact ⟨n + 1, by omega, by go_num, qh (fun m hm => by
     by_cases h : m = n
     ·rw [h]; exact HB1.out
     ·exact HB.out m (by omega)), A5⟩
    case measure => simp [intOf]; omega
   ·refine bL.nH (by rfl) (.tmp 6) rfl (w.heap.size + 1 + 1 + 1) 0 rfl (wO t.P k n) (by simpa using au.ah AS.out.x) ?_
    refine hK.out _ _ trivial (fun hS => ?_)
    clear hK Kq
    go_simp
    refine rd 4 rfl (fun Kq hK => ?_)
    refine bL.nH (by rfl) (.tmp 28) rfl w.heap.size (1 + n * 32) rfl pn (HP.out _ _ AS.out) ?_
    refine hK.out _ _ trivial (fun hS => ?_)
    clear hK Kq
    go_simp
    refine rd 6 rfl (fun Kq hK => ?_)
    go_simp
    with_reducible refine (qI pn (wO t.P k n) _ (HR.out.on _ AS.out.below)).mono ?_
    rintro e x1 ⟨rfl, b1⟩
    rw [WQ.out]
    have A1 := qh (AS.out.call b1)
    refine hK.out _ _ trivial (fun hS => ?_)
    clear hK Kq b1 AS HP
    refine rd 8 rfl (fun Kq hK => ?_)
    refine bL.aH rfl (.tmp 6) (.tmp 31) rfl rfl (w.heap.size + 1 + 1 + 1) (wO t.P k (n + 1)) rfl rfl 26 _ A1.out.x (by rw [bL.arr]) ?_
    intro w4 o4 b4
    have A4 := qh (show Ik w Z (jr t n hn32) (wO t.P k (n + 1)) w4 from ⟨A1.out.below.trans (o4.below (by simp <;> omega)), o4.blk A1.out.t (by simp <;> omega), o4.blk A1.out.r (by simp <;> omega), b4⟩)
    refine hK.out _ _ trivial (fun hS => ?_)
    clear hK Kq o4 b4 A1
    refine tkp 10 (.pointer (some ⟨w.heap.size, 1 + n * 32, none⟩)) rfl hS ?_
    go_simp
    refine rd 11 rfl (fun Kq hK => ?_)
    refine bL.fu rfl (.tmp 34) (.tmp 32) rfl rfl w.heap.size (1 + n * 32) ai rfl rfl 29 _ A4.out.t (by rw [fD.len]; omega) ?_
    intro w5 o5 b5
    rw [fD.tV _ n hn, AR t n hn] at b5
    have A5 := qh (show Ik w Z (jr t (n + 1) (by omega)) (wO t.P k (n + 1)) w5 from ⟨A4.out.below.trans (o5.below (by simp)), b5, o5.blk A4.out.r (by simp <;> omega), o5.blk A4.out.x (by simp <;> omega)⟩)
    refine hK.out _ _ trivial (fun _ => ?_)
    clear hK Kq hS o5 b5 A4
    refine wpAnyH_done (by kernel_rfl) ?_ _
    go_wp2_with fail
    go_roundw
    case rel => exact ⟨n + 1, by omega, by go_num, qh (fun m hm => by
     by_cases h : m = n
     ·rw [h]; exact HB1.out
     ·exact HB.out m (by omega)), A5⟩
    case measure => simp [intOf]; omega
  | false =>
   subst hq
   have HB0 := qh hr
   clear hr
   have AS := qh AP.out
   have hadd : IntKind.u32.wrap ((t.c : Int) + 1) = (t.c : Int) + 1 := by have := t.hc; have := HF.out; rw [IntKind.wrap_u32']; omega
   have Ub := qh (show t.c + 1 < 4294967296 by have := t.hc; have := HF.out; omega)
   go_wp2_with (first
    | ((with_reducible refine az 6 ?_); refine bL.af rfl (.tmp 6) rfl (w.heap.size + 1 + 1 + 1) 0 rfl (wO t.P k n) (by simpa using au.ah AS.out.x) ?_)
    | ((with_reducible refine ag 19 17 ?_); refine bL.dO rfl (.tmp 19) (.tmp 17) rfl rfl w.heap.size (1 + n * 32) (wO t.P k n) rfl rfl 29 _ AS.out.t (by rw [fD.len]; omega) ?_; intro w5 o5 b5; rw [fD.tV _ n hn] at b5
       have A5 := qh (show Ik w Z ((jr t n (by omega)).wR n (wO t.P k n)) (wO t.P k n) w5 from ⟨AS.out.below.trans (o5.below (by simp)), b5, o5.blk AS.out.r (by simp <;> omega), o5.blk AS.out.x (by simp <;> omega)⟩)
       have c5 : w5.cell? ⟨w.heap.size, 0, none⟩ = some (.int .u32 t.c) := fD.c0 (t := (jr t n (by omega)).wR n (wO t.P k n)) (au.ah b5)
       clear o5 b5 AS c0)
    | ((with_reducible refine ag 39 38 ?_); refine aJ rfl 24 (.tmp 39) (.tmp 38) rfl rfl w.heap.size 0 (.int .u32 (t.c + 1 : Nat)) rfl (by congr 1) rfl 29 _ A5.out.t (by rw [gz.arr]; omega) (by kernel_rfl) ?_; intro w6 o6 b6; rw [fD.JD _ (t.c + 1) Ub.out] at b6
       have A6 := qh (show Ik w Z (((jr t n (by omega)).wR n (wO t.P k n)).JF (t.c + 1) Ub.out) (wO t.P k n) w6 from ⟨A5.out.below.trans (o6.below (by simp)), b6, o6.blk A5.out.r (by simp <;> omega), o6.blk A5.out.x (by simp <;> omega)⟩)
       clear o6 b6 A5)
    | ((with_reducible refine az 2 ?_); refine gz.af rfl (.tmp 2) rfl w.heap.size 0 rfl (((jr t n (by omega)).wR n (wO t.P k n)).JF (t.c + 1) Ub.out) (by simpa using au.ah A6.out.t) ?_)
    | ((with_reducible refine ag 4 40 ?_); refine gz.aj rfl (.tmp 4) (.tmp 40) rfl rfl (w.heap.size + 1 + 1) (((jr t n (by omega)).wR n (wO t.P k n)).JF (t.c + 1) Ub.out) rfl rfl 29 Z A6.out.r (by rw [HS.out]) ?_; intro w7 o7 b7))
   try rw [Exit.noGoto_ret]
   refine bodyPost_ret (bn rfl _ _ (w.heap.size + 1 + 1) 29 _ (0, 0) _ rfl b7 Tryz.underlying29 rfl (by rw [gz.arr]; kernel_rfl)) rfl ⟨?_, A6.out.below.trans (o7.below (by simp; omega))⟩
   have he : (nT t k).1 = ((jr t n (by omega)).wR n (wO t.P k n)).JF (t.c + 1) Ub.out := by
    unfold nT
    rw [dif_neg HF.out]
    refine fD.ext' ?_
    show rO.mk (t.c + 1) (ni fC ai t.c 32 0 t.P k) = rO.mk (t.c + 1) ((List.replicate n ai ++ t.P.drop n).set n (wO t.P k n))
    rw [Qf t k n hn HB.out HB0.out]
   rw [he]
   rfl
theorem Vj : WE := by
 intro t k w hR
 by_cases h : t.c = 4294967295
 ·rw [Bo k h]
  exact J7 t k w h
 ·rw [Bn k h]
  exact J6 t k w hR h
end
section
open Go.RowKit
structure QX (w : World) (Z : Array Value) (t : fD) (W : World) : Prop where
 below : Below w.heap.size w W
 t : ax W w.heap.size 29 t.cells.toArray
 r : ax W (w.heap.size + 1) 29 Z
theorem QX.call {w W W' : World} {Z : Array Value} {t : fD} (h : QX w Z t W) (hb : Below W.heap.size W W') : QX w Z t W' :=
 ⟨h.below.trans (hb.mono h.below.size), aa hb h.t h.t.lt, aa hb h.r h.r.lt⟩
theorem QX.fresh {w W W' : World} {Z : Array Value} {t : fD} {ob : Obj} (h : QX w Z t W) (o : Only [W.heap.size] (W.alloc ob) W') : QX w Z t W' :=
 h.call (((Below.refl _ _).alloc (Nat.le_refl _) ob).trans (o.below (by simp)))
theorem Gu : WG := by
 intro t A c l w hn hl hR
 obtain ⟨Z, hZ, hz, hzs, hzn⟩ := bB gY jJ
 have HR := qh hR
 have HS := qh hzs
 have HL := qh hl
 have A0 := qh (show QX w Z t ((w.alloc (.cells t.cells.toArray 29)).alloc (.cells Z 29)) from ⟨((Below.refl w.heap.size w).alloc (Nat.le_refl _) _).alloc (by simp) _, (ax.new w 29 t.cells.toArray).alloc _, by have := ax.new (w.alloc (.cells t.cells.toArray 29)) 29 Z; rwa [World.size_alloc] at this⟩)
 obtain ⟨Y, hY⟩ : ∃ Y, allT t l = Y := ⟨_, rfl⟩
 rw [hY]
 have HY := qh hY
 clear hZ hzs hl hY hR
 go_enter Tryz.func5, Tryz.ntmps5
 go_wp2_with fail
 go_loopw [11] (fun i wr => ∃ (n : Nat) (u : fD), n ≤ l.length ∧ i = .int .i64 n ∧ Hid (Y = allT u (l.drop n)) ∧ Hid (QX w Z u wr)) (fun i _ => l.length - (intOf i).toNat)
 case atStart => exact ⟨0, t, by omega, rfl, qh HY.out.symm, A0⟩
 case round =>
  clear A0 HY
  obtain ⟨n, u, hnl, rfl, HX, AS⟩ := hrel
  by_cases hlt : n < l.length
  ·obtain ⟨g, o, hA, hg, hc⟩ := (HL.out.below AS.out.below).at aC hlt
   obtain ⟨x, hx⟩ : ∃ x, l[n] = x := ⟨_, rfl⟩
   rw [hx] at hc
   have YH := qh (show Y = if (nT u x).2 = 0 then allT (nT u x).1 (l.drop (n + 1)) else (zT, (nT u x).2) by
    rw [HX.out, ← List.getElem_cons_drop hlt, hx]
    rfl)
   have HER := qh (Qs u x)
   obtain ⟨v, hv⟩ : ∃ v, nT u x = v := ⟨_, rfl⟩
   have HV := qh hv
   rw [hv] at YH HER
   obtain ⟨v, er⟩ := v
   subst hA
   have HC := qh hc
   clear HX hx hc hv hg
   go_wp2_with (first
    | ((with_reducible refine az 13 ?_); refine bL.af rfl (.tmp 13) rfl g (o + n * 32) rfl x HC.out ?_)
    | ((with_reducible refine ag 7 14 ?_); refine bL.aj rfl (.tmp 7) (.tmp 14) rfl rfl wr.heap.size x rfl rfl 26 _ (ax.new wr 26 _) rfl ?_; intro w5 o5 b5
       have A5 := qh (AS.out.fresh o5)
       have P5 := qh b5
       clear o5 b5 AS HC)
    | ((with_reducible refine az 2 ?_); refine gz.af rfl (.tmp 2) rfl w.heap.size 0 rfl u (by simpa using au.ah A5.out.t) ?_)
    | ((with_reducible refine az 7 ?_); refine bL.af rfl (.tmp 7) rfl wr.heap.size 0 rfl x (by simpa using au.ah P5.out) ?_))
   refine (Vj u x _ (HR.out.on _ A5.out.below)).mono ?_
   rintro e x1 ⟨rfl, b1⟩
   rw [HV.out]
   have A6 := qh (A5.out.call b1)
   clear b1 A5 P5
   rcases HER.out with h0 | h0
   ·subst h0
    have YI := qh (show Y = allT v (l.drop (n + 1)) by rw [YH.out, if_pos rfl])
    go_wp2_with ((with_reducible refine ag 2 19 ?_); refine gz.aj rfl (.tmp 2) (.tmp 19) rfl rfl w.heap.size v rfl rfl 29 u.cells.toArray A6.out.t (by rw [gz.arr]) ?_; intro w7 o7 b7
                 have A7 := qh (show QX w Z v w7 from ⟨A6.out.below.trans (o7.below (by simp)), b7, o7.blk A6.out.r (by simp)⟩)
                 clear o7 b7)
    go_roundw
    case rel => exact ⟨n + 1, v, by omega, by go_num, YI, A7⟩
    case measure => simp [intOf]; omega
   ·subst h0
    have YI := qh (show Y = (zT, 2) by rw [YH.out, if_neg (by decide)])
    go_wp2_with (first
     | ((with_reducible refine ag 2 19 ?_); refine gz.aj rfl (.tmp 2) (.tmp 19) rfl rfl w.heap.size v rfl rfl 29 u.cells.toArray A6.out.t (by rw [gz.arr]) ?_; intro w7 o7 b7
        have A7 := qh (show QX w Z v w7 from ⟨A6.out.below.trans (o7.below (by simp)), b7, o7.blk A6.out.r (by simp)⟩)
        clear o7 b7)
     | ((with_reducible refine bW 23 ?_); refine bu rfl 29 #[] rfl zT.cells.toArray (by kernel_rfl) ?_)
     | ((with_reducible refine ag 4 23 ?_); refine gz.aj rfl (.tmp 4) (.tmp 23) rfl rfl (w.heap.size + 1) zT rfl rfl 29 Z A7.out.r (by rw [HS.out]) ?_; intro w8 o8 b8))
    refine bodyPost_ret (bn rfl _ _ (w.heap.size + 1) 29 _ (0, 0) _ rfl b8 Tryz.underlying29 rfl (by rw [gz.arr]; kernel_rfl)) rfl ⟨?_, A7.out.below.trans (o8.below (by simp))⟩
    rw [YI.out]
    rfl
  ·obtain rfl : n = l.length := by omega
   have HXL := qh (show Y = (u, 0) by rw [HX.out, List.drop_length]; rfl)
   clear HX
   go_wp2_with (first
    | ((with_reducible refine az 2 ?_); refine gz.af rfl (.tmp 2) rfl w.heap.size 0 rfl u (by simpa using au.ah AS.out.t) ?_)
    | ((with_reducible refine ag 4 26 ?_); refine gz.aj rfl (.tmp 4) (.tmp 26) rfl rfl (w.heap.size + 1) u rfl rfl 29 Z AS.out.r (by rw [HS.out]) ?_; intro w7 o7 b7))
   refine bodyPost_ret (bn rfl _ _ (w.heap.size + 1) 29 _ (0, 0) _ rfl b7 Tryz.underlying29 rfl (by rw [gz.arr]; kernel_rfl)) rfl ⟨?_, AS.out.below.trans (o7.below (by simp))⟩
   rw [HXL.out]
   rfl
end
section
open Go.RowKit
def P32 : Type := {l : List aS // l.length = 32}
def VC (x : P32) : List Value := cellsOf ak x.1
theorem Z8 : cZ Tryz.prog 27 VC 1024 := ⟨by kernel_rfl, fun x => by unfold VC; rw [aT aC, x.2], fun x => dB fI _, Tryz.isAgg27⟩
theorem Tc (l : List aS) (hl : l.length = 32) (i : Nat) (hi : i < 32) (V : World) :
 (Instr.index 27 (.agg (cellsOf ak l).toArray) (.int .i64 (i : Int))).run Tryz.prog V = .ok (.agg (ak (l.getD i ai)).toArray) V := by
 have hp := Ca V Tryz.underlying26 (show Tryz.prog.cellsOf 26 = 32 by kernel_rfl) (cellsOf ak l).toArray (i * 32)
 have hi2 : i < l.length := by omega
 rw [cells_extract l i hi2, ← dQ] at hp
 have hs := bL.sizeOf V
 have hg : l.getD i ai = l[i] := by rw [List.getD_eq_getElem?_getD, List.getElem?_eq_getElem hi2]; rfl
 rw [hg]
 simp [Instr.index, asIntOf, run_underlying Tryz.underlying27, hs, hp, hi]
structure Ig (w : World) (ge gx : Nat) (t : fD) (x : aS) (W : World) : Prop where
 below : Below w.heap.size w W
 t : ax W w.heap.size 29 t.cells.toArray
 r : ∃ k : aS, ax W (w.heap.size + 1) 26 (ak k).toArray
 e : ax W ge 62 (xu 32 (by omega)).cells.toArray
 x : ax W gx 26 (ak x).toArray
 hge : w.heap.size + 1 < ge
 hgx : ge < gx
theorem Ig.call {w W W' : World} {ge gx : Nat} {t : fD} {x : aS} (h : Ig w ge gx t x W) (hb : Below W.heap.size W W') : Ig w ge gx t x W' :=
 ⟨h.below.trans (hb.mono h.below.size), aa hb h.t h.t.lt, h.r.imp fun _ k => aa hb k k.lt, aa hb h.e h.e.lt, aa hb h.x h.x.lt, h.hge, h.hgx⟩
theorem Ig.drew {w W : World} {ge gx : Nat} {t : fD} {x : aS} (h : Ig w ge gx t x W) : Ig w ge gx t x W.drew := ⟨h.below.drew, h.t, h.r, h.e, h.x, h.hge, h.hgx⟩
theorem Ig.put {w W W' : World} {ge gx : Nat} {t : fD} {x y : aS} (h : Ig w ge gx t x W) (o : Only [gx] W W') (b : ax W' gx 26 (ak y).toArray) : Ig w ge gx t y W' := by
 have hg := h.hge
 have hx := h.hgx
 exact ⟨h.below.trans (o.below (by simp <;> omega)), o.blk h.t (by simp <;> omega), h.r.imp fun _ k => o.blk k (by simp <;> omega), o.blk h.e (by simp <;> omega), b, h.hge, h.hgx⟩
theorem Ig.fresh {w W W' : World} {ge gx : Nat} {t : fD} {x : aS} {ob : Obj} (h : Ig w ge gx t x W) (o : Only [W.heap.size] (W.alloc ob) W') : Ig w ge gx t x W' :=
 h.call (((Below.refl _ _).alloc (Nat.le_refl _) ob).trans (o.below (by simp)))
theorem uw : We := by
 intro t w hR
 have HR := qh hR
 obtain ⟨Z, hZ, hz, hzs, hzn⟩ := bB Da Ir
 have HS := qh hzs
 have kT := qh (show ∀ cs, ax ((w.alloc (.cells t.cells.toArray 29)).alloc (.cells cs 26)) w.heap.size 29 t.cells.toArray from fun cs => (ax.new w 29 t.cells.toArray).alloc _)
 have kR := qh (show ax ((w.alloc (.cells t.cells.toArray 29)).alloc (.cells (ak ai).toArray 26)) (w.heap.size + 1) 26 (ak ai).toArray from bg (g := w.heap.size + 1) (w := w.alloc (.cells t.cells.toArray 29)) 26 (ak ai).toArray (by simp))
 clear hZ hzs hR
 go_enter Tryz.func9, Tryz.ntmps9
 go_wp2_with fail
 refine (Nv _ (HR.out.on _ (((Below.refl w.heap.size w).alloc (Nat.le_refl _) _).alloc (by simp) _))).mono ?_
 rintro e w3 ⟨rfl, b3⟩
 have T3 := qh (aa b3 (kT.out _) (kT.out _).lt)
 have R3 := qh (show ax w3 (w.heap.size + 1) 26 (ak ai).toArray from aa b3 kR.out kR.out.lt)
 have B3 := qh (show Below w.heap.size w w3 from (((Below.refl w.heap.size w).alloc (Nat.le_refl _) _).alloc (by simp) _).trans (b3.mono (by simp; omega)))
 clear b3 kT kR
 go_wp2_with (first
  | ((with_reducible refine ag 3 7 ?_); refine Ze.aj rfl (.tmp 3) (.tmp 7) rfl rfl w3.heap.size (xu 32 (by omega)) rfl rfl 62 Z (ax.new w3 62 Z) (by rw [HS.out]) ?_; intro w4 o4 b4
     have R0 := qh (show Ig w w3.heap.size w4.heap.size t (pF t 0) (w4.alloc (.cells (ak ai).toArray 26)) from ⟨B3.out.trans ((((Below.refl _ _).alloc B3.out.size _).trans (o4.below (by have := B3.out.size; simp <;> omega))).alloc (by have := b4.lt; have := B3.out.size; omega) _), (o4.blk (T3.out.alloc _) (by have := T3.out.lt; simp <;> omega)).alloc _, ⟨ai, (o4.blk (R3.out.alloc _) (by have := R3.out.lt; simp <;> omega)).alloc _⟩, b4.alloc _, bg (g := w4.heap.size) 26 _ rfl, R3.out.lt, b4.lt⟩)
     clear o4 b4)
  | ((with_reducible refine az 8 ?_); refine Z8.af rfl (.tmp 8) rfl w.heap.size 1 rfl ⟨t.P, t.hP⟩ (au.ah R0.out.t).tail ?_))
 obtain ⟨ge, hge⟩ : ∃ ge, w3.heap.size = ge := ⟨_, rfl⟩
 obtain ⟨gx, hgx⟩ : ∃ gx, w4.heap.size = gx := ⟨_, rfl⟩
 rw [hge, hgx] at R0
 rw [hge, hgx]
 rw [show VC ⟨t.P, t.hP⟩ = cellsOf ak t.P from rfl]
 clear hge hgx hz hzn T3 R3 B3
 go_loopw [10] (fun i wr => ∃ n : Nat, n ≤ 32 ∧ i = .int .i64 n ∧ Hid (Ig w ge gx t (pF t n) wr)) (fun i _ => 32 - (intOf i).toNat)
 case atStart => exact ⟨0, by omega, rfl, R0⟩
 case round =>
  clear R0
  obtain ⟨n, hn, rfl, AP⟩ := hrel
  by_cases hlt : n < 32
  ·have hd : decide ((n : Int) < 32) = true := by simp; omega
   have hge : (0 : Int) ≤ (n : Int) := by omega
   have hi1 : (n : Int) < 32 := by omega
   have hi2 : (n : Int) < 33 := by omega
   have hix := fun V => Tc t.P t.hP n hlt V
   obtain ⟨pn, hpn⟩ : ∃ pn, t.P.getD n ai = pn := ⟨_, rfl⟩
   rw [hpn] at hix
   obtain ⟨r, hr⟩ : ∃ r, gJ t.c n = r := ⟨_, rfl⟩
   have HC := qh (fun W => xK t.c n t.hc hlt r hr W)
   have HN := qh (show (if r = true then fC pn (pF t n) else fC (pF t n) (gQ n)) = pF t (n + 1) by
    rw [← hpn, ← hr]
    rfl)
   clear hr hpn
   obtain ⟨gp, XZ⟩ : ∃ gp, wr.heap.size = gp := ⟨_, rfl⟩
   have HG := qh XZ
   clear XZ
   go_wp2_with (first
    | ((with_reducible refine ag 6 13 ?_); refine bL.aj rfl (.tmp 6) (.tmp 13) rfl rfl wr.heap.size pn rfl rfl 26 _ (ax.new wr 26 _) rfl ?_; intro w5 o5 b5
       have A5 := qh (AP.out.fresh o5)
       have P5 := qh b5
       have c0 : w5.cell? ⟨w.heap.size, 0, none⟩ = some (.int .u32 t.c) := fD.c0 (au.ah A5.out.t)
       clear o5 b5 AP hix))
   refine (HC.out _).mono ?_
   rintro e wq ⟨rfl, rfl⟩
   clear HC
   cases hq : r with
   | true =>
    subst hq
    have WQ := qh (show fC pn (pF t n) = pF t (n + 1) from by have := HN.out; rwa [if_pos rfl] at this)
    clear HN
    go_wp2_with (first
     | ((with_reducible refine az 6 ?_); refine bL.af rfl (.tmp 6) rfl wr.heap.size 0 rfl pn (by simpa using au.ah P5.out) ?_)
     | ((with_reducible refine az 4 ?_); refine bL.af rfl (.tmp 4) rfl gx 0 rfl (pF t n) (by simpa using au.ah A5.out.x) ?_))
    refine (qI pn (pF t n) _ (HR.out.on _ A5.out.below)).mono ?_
    rintro e x1 ⟨rfl, b1⟩
    rw [WQ.out]
    have A6 := qh (A5.out.call b1)
    clear b1 A5 P5 c0
    go_wp2_with ((with_reducible refine ag 4 20 ?_); refine bL.aj rfl (.tmp 4) (.tmp 20) rfl rfl gx (pF t (n + 1)) rfl rfl 26 _ A6.out.x (by rw [bL.arr]) ?_; intro w7 o7 b7
                 have A7 := qh (A6.out.put o7 b7)
                 clear o7 b7)
    go_roundw
    case rel => exact ⟨n + 1, by omega, by go_num, A7⟩
    case measure => simp [intOf]; omega
   | false =>
    subst hq
    have WQ := qh (show fC (pF t n) (gQ n) = pF t (n + 1) from by have := HN.out; rwa [if_neg (by decide)] at this)
    have HP := qh (show ∀ (W : World) (x : aS), Ig w ge gx t x W → au W ge (n * 32) (ak (gQ n)) from fun W x h => Ox hlt h.e)
    clear HN P5
    go_wp2_with fail
    have AS := qh A5.out.drew
    refine wp_region_held_drew (S := fun W => au W ge (n * 32) (ak (gQ n))) (by kernel_rfl) (HP.out _ _ AS.out) ?_
    intro hS
    refine tkp 1 (.int .i64 n) rfl hS ?_
    go_simp
    refine tkp 2 (.pointer (some ⟨ge, n * 32, none⟩)) rfl hS ?_
    go_simp
    refine tk 3 (.agg (ak (gQ n)).toArray) rfl (bL.aB (by rfl) (.tmp 23) rfl (ge) (n * 32) rfl (gQ n) (fun _ h => h)) hS ?_
    go_simp
    refine rd 0 rfl (fun Kq hK => ?_)
    refine bL.nH (by rfl) (.tmp 4) rfl gx 0 rfl (pF t n) (by simpa using au.ah AS.out.x) ?_
    refine hK.out _ _ hS (fun hS => ?_)
    clear hK Kq
    go_simp
    refine rd 4 rfl (fun Kq hK => ?_)
    go_simp
    with_reducible refine (qI (pF t n) (gQ n) _ (HR.out.on _ AS.out.below)).mono ?_
    rintro e x1 ⟨rfl, b1⟩
    rw [WQ.out]
    have A1 := qh (AS.out.call b1)
    refine hK.out _ _ (HP.out _ _ A1.out) (fun hS => ?_)
    clear hK Kq b1 AS
    refine rd 5 rfl (fun Kq hK => ?_)
    refine bL.aH rfl (.tmp 4) (.tmp 25) rfl rfl gx (pF t (n + 1)) rfl rfl 26 _ A1.out.x (by rw [bL.arr]) ?_
    intro w4 o4 b4
    have A4 := qh (A1.out.put o4 b4)
    refine hK.out _ _ (HP.out _ _ A4.out) (fun _ => ?_)
    clear hK Kq hS o4 b4 A1 HP
    refine wpAnyH_done (by kernel_rfl) ?_ _
    go_wp2_with fail
    go_roundw
    case rel => exact ⟨n + 1, by omega, by go_num, A4⟩
    case measure => simp [intOf]; omega
  ·obtain rfl : n = 32 := by omega
   have R9 := qh AP.out
   obtain ⟨kr, kb⟩ := AP.out.r
   have KR := qh kb
   clear AP kb
   go_wp2_with (first
    | ((with_reducible refine az 4 ?_); refine bL.af rfl (.tmp 4) rfl gx 0 rfl (pF t 32) (by simpa using au.ah R9.out.x) ?_)
    | ((with_reducible refine ag 2 27 ?_); refine bL.aj rfl (.tmp 2) (.tmp 27) rfl rfl (w.heap.size + 1) (pF t 32) rfl rfl 26 _ KR.out (by rw [bL.arr]) ?_; intro w7 o7 b7))
   exact bodyPost_ret (aU rfl _ _ (w.heap.size + 1) 26 _ (0, 0) _ rfl b7 Tryz.underlying26 rfl (by rw [bL.arr]; kernel_rfl)) rfl ⟨rfl, R9.out.below.trans (o7.below (by simp))⟩
end
section
open Go.RowKit
def Jj (w : World) (x : Except Int bK) (e : Ending) (w' : World) : Prop :=
 Below w.heap.size w w' ∧ match x with
 | .ok B => ∃ b : bF, b.B = B ∧ e = .returned (.tuple #[.agg b.cells.toArray, .int .i64 0]) ∧ BO w' b
 | .error er => e = .returned (.tuple #[.agg bZ.cells.toArray, .int .i64 er])
theorem Jj.err {w w' : World} {er : Int} {e : Ending} (hb : Below w.heap.size w w') (h : e = .returned (.tuple #[.agg bZ.cells.toArray, .int .i64 er])) : Jj w (.error er) e w' := ⟨hb, h⟩
def aaz (p r : aS) (z : aQ .u32) (x : Except Int (List dX × List UInt8)) : Except Int bK := match x with
 | .error e => .error e
 | .ok (l, s) => if s = [] then .ok ⟨p, r, z, l⟩ else .error 50
end
section
open Go.RowKit
def QE (B : bK) : Prop := B.bG.length ≤ 60 ∧ ∀ T ∈ B.bG, sJ T = false
theorem SI {B : bK} (h : ku B = false) : QE B := by
 unfold ku at h
 rw [Bool.or_eq_false_iff, decide_eq_false_iff_not, List.any_eq_false] at h
 exact ⟨by omega, fun T hT => by simpa using h.2 T hT⟩
def Wy : Prop := ∀ (a : bF) (w : World), a.In w w.heap.size → QE a.B → Calls Tryz.prog 26 #[.agg a.cells.toArray] w fun e w' => e = .returned (q9 (gX a.B)) ∧ Below w.heap.size w w'
def QC : Prop := ∀ (a : bF) (w : World), a.In w w.heap.size → ku a.B = false → Calls Tryz.prog 39 #[.agg a.cells.toArray] w fun e w' => (∃ A c, e = .returned (.slice A (dz a.B.bG).length c) ∧ w'.ownsRow w.heap.size 26 32 (.slice A (dz a.B.bG).length c) (dz a.B.bG).length (cellsOf ak (dz a.B.bG))) ∧ Below w.heap.size w w'
def TW : Prop := ∀ (a : bF) (w : World), a.In w w.heap.size → ku a.B = false → Calls Tryz.prog 137 #[.agg a.cells.toArray] w fun e w' => e = .returned (.int .i64 (jW a.B.bG : Nat)) ∧ Below w.heap.size w w'
end
section
open Go.RowKit
def YE : Prop := ∀ (a : bF) (w : World), a.In w w.heap.size → QE a.B → aM w → Calls Tryz.prog 215 #[.agg a.cells.toArray] w fun e w' => e = .returned (XL (qY a.B)) ∧ Below w.heap.size w w'
end
section
open Go.RowKit
section
variable {F : Fence} {n : Nat} {P : Program} {ops : Array Oper} {rest : List Oper} {o : Oper} {a : Act} {w : World} {Q : Exit → Act → World → Prop}
theorem sW (hg : o.guard = none) (hd : ∀ c, o.op ≠ .defer c) (ha : o.about P w a.eval = none) (v : Value) (w' : World) (hrun : (execOp a.eval o).run P w = .ok (.value v) w')
 (h : wpListIn F n P ops Q rest (a.put o.dst v) w') : wpListIn F n P ops Q (o :: rest) a w :=
 wpListIn_plain hg fun K hK => by
  unfold Oper.wpIn
  refine ⟨fun f hf => (by rw [ha] at hf; cases hf), ?_⟩
  rw [Oper.semAt_plain F _ _ hd, hrun, Oper.uponIn_value]
  exact hK _ _ h
theorem zD (hg : o.guard = none) (hd : ∀ c, o.op ≠ .defer c) (ha : o.about P w a.eval = none) (hdst : o.dst = none) (w' : World) (hrun : (execOp a.eval o).run P w = .ok .skip w')
 (h : wpListIn F n P ops Q rest a w') : wpListIn F n P ops Q (o :: rest) a w :=
 wpListIn_plain hg fun K hK => by
  unfold Oper.wpIn
  refine ⟨fun f hf => (by rw [ha] at hf; cases hf), ?_⟩
  rw [Oper.semAt_plain F _ _ hd, hrun, Oper.uponIn_skip, hdst]
  exact hK _ _ h
theorem qR {dst : Option Tmp} {ty kG : TypeId} {pos : String} {after : Array Edge} (i : Nat)
 (h : wpListIn F n P ops Q ({ dst := dst, op := .load ty (.tmp i), type := kG, pos := pos, after := after, guard := none } :: rest) a w) :
 wpListIn F n P ops Q ({ dst := dst, op := .load ty (.tmp i), type := kG, pos := pos, after := after, guard := none } :: rest) a w := h
theorem oQ {ty kG : TypeId} {pos : String} {after : Array Edge} (i j : Nat)
 (h : wpListIn F n P ops Q ({ dst := none, op := .store ty (.tmp i) (.tmp j), type := kG, pos := pos, after := after, guard := none } :: rest) a w) :
 wpListIn F n P ops Q ({ dst := none, op := .store ty (.tmp i) (.tmp j), type := kG, pos := pos, after := after, guard := none } :: rest) a w := h
theorem FI {t t' kG : TypeId} {pos : String} {after : Array Edge} (d i j : Nat)
 (h : wpListIn F n P ops Q ({ dst := some d, op := .call { callee := .builtin .append, args := #[.tmp i, .tmp j], argTypes := #[t, t'] }, type := kG, pos := pos, after := after, guard := none } :: rest) a w) :
 wpListIn F n P ops Q ({ dst := some d, op := .call { callee := .builtin .append, args := #[.tmp i, .tmp j], argTypes := #[t, t'] }, type := kG, pos := pos, after := after, guard := none } :: rest) a w := h
variable {α : Type} {enc : α → List Value} {k : Nat} {e t : TypeId}
theorem cZ.iP (T : cZ P e enc k) (hg : o.guard = none) (x : Operand) (ho : o.op = .load e x) (g off : Nat) (hx : a.eval x = .pointer (some ⟨g, off, none⟩)) (y : α) (hgc : au w g off (enc y))
 (h : wpListIn F n P ops Q rest (a.put o.dst (.agg (enc y).toArray)) w) : wpListIn F n P ops Q (o :: rest) a w := by
 refine sW hg (by rw [ho]; intro c hc; cases hc) (by simp [Oper.about, ho]) _ w ?_ h
 unfold execOp
 simp only [ho, hx, Instr.loadAt, Instr.sureAddr, Sem.run_bind, Sem.run_pure, Result.andThen_ok, T.load w g off y hgc]
theorem cu.iP (T : cu P t e enc k) (hg : o.guard = none) (x : Operand) (ho : o.op = .load e x) (g off : Nat) (hx : a.eval x = .pointer (some ⟨g, off, none⟩)) (y : α) (hgc : au w g off (enc y))
 (h : wpListIn F n P ops Q rest (a.put o.dst (.agg (enc y).toArray)) w) : wpListIn F n P ops Q (o :: rest) a w := by
 refine sW hg (by rw [ho]; intro c hc; cases hc) (by simp [Oper.about, ho]) _ w ?_ h
 unfold execOp
 simp only [ho, hx, Instr.loadAt, Instr.sureAddr, Sem.run_bind, Sem.run_pure, Result.andThen_ok, T.load w g off y hgc]
theorem Gl (w : World) (cs v : Array Value) (t : TypeId) : (w.alloc (.cells cs t)).setRow w.heap.size v = w.alloc (.cells v t) := by
 unfold World.setRow World.alloc
 congr 1
 apply Array.ext
 ·simp
 ·intro i h1 h2
  simp only [Array.size_modify, Array.size_push] at h1
  rw [Array.getElem_modify]
  by_cases hi : w.heap.size = i
  ·subst hi
   simp
  ·rw [if_neg hi]
   have : i < w.heap.size := by omega
   rw [Array.getElem_push_lt this, Array.getElem_push_lt this]
theorem cZ.ig (T : cZ P e enc k) {w0 : World} {cs : Array Value} {te : TypeId} (hg : o.guard = none) (x y : Operand) (ho : o.op = .store e x y) (hdst : o.dst = none) (v : α) (hx : a.eval x = .pointer (some ⟨w0.heap.size, 0, none⟩)) (hy : a.eval y = .agg (enc v).toArray) (hcs : cs.size = k)
 (h : wpListIn F n P ops Q rest a (w0.alloc (.cells (enc v).toArray te))) : wpListIn F n P ops Q (o :: rest) a (w0.alloc (.cells cs te)) := by
 have hst := run_storeCells_at P w0.heap.size 0 te (enc v) 0 cs (w0.alloc (.cells cs te)) (ax.new w0 te cs) (by rw [T.len]; omega) (T.one v)
 have he : ((cs.toList.take (0 + 0) ++ enc v ++ cs.toList.drop (0 + 0 + (enc v).length)).toArray) = (enc v).toArray := by
  rw [T.len]
  have : cs.toList.drop (0 + 0 + k) = [] := List.drop_of_length_le (by rw [Array.length_toList]; omega)
  rw [this]
  simp
 rw [he, Gl] at hst
 refine zD hg (by rw [ho]; intro c hc; cases hc) (by simp [Oper.about, ho]) hdst _ ?_ h
 have hrun : (storeVar e ⟨w0.heap.size, 0, none⟩ (.agg (enc v).toArray)).run P (w0.alloc (.cells cs te)) = .ok () (w0.alloc (.cells (enc v).toArray te)) := by
  simp [storeVar, T.sizeOf, Value.cells, T.len, hst]
 unfold execOp
 simp only [ho, hx, hy, Instr.storeAt, Instr.sureAddr, Sem.run_bind, Sem.run_pure, Result.andThen_ok, hrun]
theorem cu.sZ (T : cu P t e enc k) (hgd : o.guard = none) (hz : ((P.info? e).bind (·.zero)).map (·.cells.size) = some k) (bytes : Nat) (hb : (P.info? e).map (·.bytes) = some bytes) (hby : bytes ≤ 100000) (s x : Operand)
 (ho : o.op = .call { callee := .builtin .append, args := #[s, x], argTypes := #[t, t] })
 (base : Nat) (v : Value) (l : List α) (hs : a.eval s = v) (hown : w.ownsRow base e k v l.length (cellsOf enc l))
 (B : Nat) (A : Option Addr) (c : Nat) (m : List α) (hx : a.eval x = .slice A m.length c) (hg : aK enc k w B A c m) (hn : l.length + m.length ≤ 1000000) (hbase : base ≤ w.heap.size)
 (h : ∀ v' w', w'.ownsRow base e k v' (l ++ m).length (cellsOf enc (l ++ m)) → w.grownBy w' v.ownBlock → wpListIn F n P ops Q rest (a.put o.dst v') w') : wpListIn F n P ops Q (o :: rest) a w := by
 have hsz := T.size
 cases hie : P.info? e with
 | none => simp [hie] at hsz
 | some ie =>
  simp only [hie, Option.map_some, Option.some.injEq, Option.bind_some, Option.map_eq_some_iff] at hsz hz hb
  obtain ⟨z, hz1, hz2⟩ := hz
  obtain ⟨v', w', hr, h2, h3, _⟩ := pW (P := P) (w := w) base t o.type e ie z k bytes T.slice hie hz1 hsz hb hz2 T.pos v l.length (cellsOf enc l) hown B A m.length c (cellsOf enc m) (hg.reads T.len) (dB T.one _) (by unfold maxLen; omega) (by
   have : (l.length + m.length) * bytes ≤ 1000000 * 100000 := Nat.mul_le_mul hn hby
   omega) hbase
  refine wpListIn_plain hgd fun K hK => ?_
  unfold Oper.wpIn
  refine ⟨by simp [Oper.about, ho, resolve, Target.leads, Sem.run_pure], ?_⟩
  rw [Oper.semAt_plain F _ _ (by rw [ho]; intro c hc'; cases hc')]
  simp [execOp, ho, resolve, invoke, builtin, hs, hx, hr, Result.andThen]
  refine hK _ _ (h v' w' ?_ h3)
  rw [List.length_append, bS]
  exact h2
end
end
section
open Go.RowKit Go.Shelf
attribute [local go_sem] Oper.semAt_some
abbrev LY (l : List aY) := { t : aY // t ∈ l }
theorem wY (l : List aY) (k : Nat) : (l.attach.take k).map (·.1) = l.take k := by
 rw [List.map_take, List.attach_map_subtype_val]
theorem zn (l : List aY) : l.map aY.T = l.attach.map fun x => x.1.T := by
 have h := congrArg (List.map aY.T) (List.attach_map_subtype_val l)
 rw [List.map_map] at h
 exact h.symm
theorem wh (l : List aY) (k : Nat) (hk : k < l.length) : l.attach.take (k + 1) = l.attach.take k ++ [⟨l[k], List.getElem_mem hk⟩] := by
 rw [List.take_succ_eq_append_getElem (by rw [List.length_attach]; exact hk)]
 congr 2
 simp
theorem values_in (F : Fence) (n : Nat) (hf : F.fn 114) (hro : F.round = none) (A : Option Addr) (m c : Nat) (w : World) :
 CallsIn F n Tryz.prog 114 #[.slice A m c] w fun e w' => e = .returned (.func (.func 186) #[] #[.pointer (some ⟨w.heap.size, 0, none⟩)]) ∧ w' = w.alloc (.cells #[.slice A m c] 68) := by
 refine callsIn_of_wp Tryz.func114 rfl hf ?_ hro
 simp only [Tryz.ntmps114, List.size_toArray, List.length_cons, List.length_nil, Nat.reduceAdd, Nat.reduceSub, Array.replicate_succ, Array.replicate_zero, List.push_toArray, List.append_toArray, List.nil_append, List.cons_append]
 gi_wp2
 go_ret
 exact ⟨rfl, rfl⟩
theorem FX (F : Fence) (n : Nat) (hn : 1 ≤ n) (hf : F.fn 67) (hv : F.fn 114) (hro : F.round = none) (a : bF) (w : World) :
 CallsIn F n Tryz.prog 67 #[.agg a.cells.toArray] w fun e w' => e = .returned (.func (.func 186) #[] #[.pointer (some ⟨w.heap.size + 1, 0, none⟩)]) ∧ w' = (w.alloc (.cells a.cells.toArray 70)).alloc (.cells #[.slice a.A a.bG.length a.c] 68) := by
 have c3 := bF.c3 (au.ah (ax.new w 70 a.cells.toArray))
 refine callsIn_of_wp Tryz.func67 rfl hf ?_ hro
 simp only [Tryz.ntmps67, List.size_toArray, List.length_cons, List.length_nil, Nat.reduceAdd, Nat.reduceSub, Array.replicate_succ, Array.replicate_zero, List.push_toArray, List.append_toArray, List.nil_append, List.cons_append]
 gi_wp2_with (gi_at_call 114; refine (values_in F (n - 1) hv hro a.A a.bG.length a.c _).mono ?_; rintro e w' ⟨rfl, rfl⟩)
 go_ret
 exact ⟨by simp, rfl⟩
theorem BK (g o : Nat) (F : Fence) (n : Nat) (hf : F.fn 186) (hro : F.round = none) (hn : 1 ≤ n) (l Bs n₀ : Nat) (a : bF) (J Jx : List (LY a.bG) → World → Prop) (W : World)
 (hJ : AbidesFrom W.heap.size J) (hn0 : n₀ ≤ W.heap.size)
 (hY : ∀ pre x W1, J pre W1 → pre.length < a.bG.length → YieldAt F (n - 1) Tryz.prog l #[.agg x.1.cells.toArray] W1 fun e W' =>
  (e = .returned (.bool true) ∧ J (pre ++ [x]) W' ∧ Below n₀ W1 W') ∨ (e = .returned (.bool false) ∧ Jx (pre ++ [x]) W'))
 (GX : ax W Bs 68 #[.slice a.A a.bG.length a.c]) (hI : aK aY.cells 38 W n₀ a.A a.c a.bG) (hA : a.A = some ⟨g, o, none⟩) (h0 : J [] W) :
 CallsIn F n Tryz.prog 186 #[.func (.yield l) #[] #[], .pointer (some ⟨Bs, 0, none⟩)] W fun e W' => (∃ v, e = .returned v) ∧
  ((∃ ys, ys = a.bG.attach ∧ J ys W') ∨ (∃ pre, (∃ k, k ≤ a.bG.length ∧ pre = a.bG.attach.take k) ∧ Jx pre W')) := by
 have hal : ∀ (s : List (LY a.bG)) (V : World) (o : Obj), J s V → J s (V.alloc o) := fun s V o h => hJ s V _ none h (World.grownBy_alloc V o none) (fun r e => by cases e)
 have c3 : W.cell? ⟨Bs, 0, none⟩ = some (.slice a.A a.bG.length a.c) := GX.cell 0
 rw [hA] at c3
 have HA := qh hA
 have hm0 : a.bG.length ≤ 9223372036854775807 := by have h1 := hI.le; have h2 := hI.max; unfold maxLen at h2; omega
 have HBs := qh GX
 have HI := qh hI
 clear GX hI hJ hA
 refine callsIn_of_wp Tryz.func186 rfl hf ?_ hro
 simp only [Tryz.ntmps186, List.size_toArray, List.length_cons, List.length_nil, Nat.reduceAdd, Nat.reduceSub, Array.replicate_succ, Array.replicate_zero, List.push_toArray, List.append_toArray, List.nil_append, List.cons_append]
 gi_wp2
 clear c3
 gi_loopw [7] (fun i wr => ∃ k : Nat, k ≤ a.bG.length ∧ i = .int .i64 k ∧ J (a.bG.attach.take k) wr ∧ Below n₀ W wr ∧ n₀ ≤ wr.heap.size)
  (fun i _ => a.bG.length - (intOf i).toNat)
 case atStart => exact ⟨0, Nat.zero_le _, rfl, by simpa using h0, Below.refl _ _, hn0⟩
 case round =>
  obtain ⟨k, hk, rfl, hJs, hnx, hwr⟩ := hrel
  by_cases hlt : k < a.bG.length
  ·obtain ⟨g1, o1, e1, l1, rc1⟩ := (HI.out.below hnx).at aY.len hlt
   obtain ⟨rfl, rfl⟩ : g1 = g ∧ o1 = o := by rw [HA.out] at e1; injection e1 with e1; injection e1 with e1 e2 e3; exact ⟨e1.symm, e2.symm⟩
   clear e1
   obtain ⟨x, hx⟩ : ∃ x : LY a.bG, (⟨a.bG[k], List.getElem_mem hlt⟩ : LY a.bG) = x := ⟨_, rfl⟩
   have hx1 : a.bG[k] = x.1 := by rw [← hx]
   rw [hx1] at rc1
   have HTK := qh (show a.bG.attach.take (k + 1) = a.bG.attach.take k ++ [x] by rw [wh _ _ hlt, hx])
   have zB := qh (show (a.bG.attach.take k).length < a.bG.length by rw [List.length_take, List.length_attach]; omega)
   obtain ⟨fn, tmps, assign, body, hy, hR⟩ := hY _ x (wr.alloc (.cells x.1.cells.toArray 92)) (hal _ _ _ hJs) zB.out
   have HR := qh hR
   have RC := qh rc1
   have BA := qh (show Below n₀ W (wr.alloc (.cells x.1.cells.toArray 92)) from hnx.alloc hwr _)
   clear hx hx1 rc1 hR
   gi_wp2_with (first
    | ((with_reducible refine qR 9 ?_); refine mD.iP rfl (.tmp 9) rfl g1 (o1 + k * 38) rfl x.1 RC.out ?_)
    | ((with_reducible refine oQ 4 10 ?_); refine di.ig rfl (.tmp 4) (.tmp 10) rfl rfl x.1 rfl rfl (by kernel_rfl) ?_)
    | ((with_reducible refine qR 4 ?_); refine di.iP rfl (.tmp 4) rfl wr.heap.size 0 rfl x.1 (by simpa using au.ah (ax.new wr 92 x.1.cells.toArray)) ?_))
   refine HR.out.mono ?_
   rintro e W3 (⟨rfl, hJ3, hk3⟩ | ⟨rfl, hJx3⟩)
   ·have BW := qh (BA.out.trans hk3)
    have SZ := qh (Nat.le_trans (show n₀ ≤ (wr.alloc (.cells x.1.cells.toArray 92)).heap.size by simp; omega) hk3.size)
    gi_wp2
    go_roundw
    case rel => exact ⟨k + 1, by omega, by go_num, by rw [HTK.out]; exact hJ3, BW.out, SZ.out⟩
    case measure => simp [intOf]; omega
   ·gi_wp2
    refine bodyPost_ret (results_none rfl _ _ _) rfl ?_
    exact ⟨⟨_, rfl⟩, .inr ⟨_, ⟨k + 1, by omega, HTK.out.symm⟩, hJx3⟩⟩
  ·obtain rfl : k = a.bG.length := by omega
   gi_wp2
   go_end0
   exact ⟨⟨_, rfl⟩, .inl ⟨_, rfl, by rwa [List.take_of_length_le (by rw [List.length_attach]; omega)] at hJs⟩⟩
theorem Dt (F : Fence) (n : Nat) (hf : F.fn 186) (hro : F.round = none) (l Bs : Nat) (a : bF) (J : List (LY a.bG) → World → Prop) (W : World)
 (GX : ax W Bs 68 #[.slice a.A a.bG.length a.c]) (hz : a.bG = []) (h0 : J [] W) :
 CallsIn F n Tryz.prog 186 #[.func (.yield l) #[] #[], .pointer (some ⟨Bs, 0, none⟩)] W fun e W' => (∃ v, e = .returned v) ∧ J [] W' := by
 have c3 : W.cell? ⟨Bs, 0, none⟩ = some (.slice a.A 0 a.c) := by have := GX.cell 0; rwa [hz] at this
 clear GX hz
 refine callsIn_of_wp Tryz.func186 rfl hf ?_ hro
 simp only [Tryz.ntmps186, List.size_toArray, List.length_cons, List.length_nil, Nat.reduceAdd, Nat.reduceSub, Array.replicate_succ, Array.replicate_zero, List.push_toArray, List.append_toArray, List.nil_append, List.cons_append]
 gi_wp2
 gi_loopw [7] (fun i wr => i = .int .i64 0 ∧ J [] wr) (fun _ _ => 0)
 case atStart => exact ⟨rfl, h0⟩
 case round =>
  obtain ⟨rfl, hJs⟩ := hrel
  gi_wp2
  go_end0
  exact ⟨⟨_, rfl⟩, hJs⟩
theorem vk (F : Fence) (n : Nat) (hf : F.fn 186) (hro : F.round = none) (hn : 1 ≤ n) (Bs n₀ : Nat) (a : bF) (w : World) (hn0 : n₀ ≤ w.heap.size)
 (GX : ax w Bs 68 #[.slice a.A a.bG.length a.c]) (hI : aK aY.cells 38 w n₀ a.A a.c a.bG) :
 SeqStopsK F n Tryz.prog 186 #[.pointer (some ⟨Bs, 0, none⟩)] (fun x : LY a.bG => #[.agg x.1.cells.toArray]) (Below n₀) (fun ys => ys = a.bG.attach) (fun pre => ∃ k, k ≤ a.bG.length ∧ pre = a.bG.attach.take k) a.bG.length w := fun l J Jx W hW hJ _ hY h0 => by
 have Yl := aa hW GX GX.lt
 have hI' := hI.below (hW.mono hn0)
 by_cases hz : a.bG = []
 ·refine (Dt F n hf hro l Bs a J W Yl hz h0).mono fun e W' ⟨he, hj⟩ => ⟨he, .inl ⟨_, rfl, ?_⟩⟩
  have : a.bG.attach = [] := List.attach_eq_nil_iff.2 hz
  rw [this]; exact hj
 ·obtain ⟨g, o, hA, _, _⟩ := hI'.cells hz
  exact BK g o F n hf hro hn l Bs n₀ a J Jx W hJ (Nat.le_trans hn0 hW.size) hY Yl hI' hA h0
end
section
open Go.RowKit Go.Shelf
attribute [local go_sem] Oper.semAt_some
theorem qm {X Y : World} {row : Option Nat} {g : Nat} {t : TypeId} {cs : Array Value} {B : Nat} (h : ax X g t cs) (hg : X.grownBy Y row) (hr : ∀ r, row = some r → B ≤ r ∧ ∃ o : Obj, X.heap[r]? = some o ∧ o.isCells = false) : ax Y g t cs :=
 (hg.block g h.lt (fun e => by
  obtain ⟨_, o, ho, hc⟩ := hr g e.symm
  rw [show X.heap[g]? = _ from h] at ho
  cases ho
  cases hc)).trans h
theorem zk {W w1 : World} {n₀ B : Nat} {t e : TypeId} {size : Nat} {v v' : Value} {k m : Nat} {xs ys : List Value}
 (hv : Boxed W B t v) (hte : t ≠ e) (hrow : W.ownsRow n₀ e size v k xs) (hn₀ : n₀ ≤ W.heap.size) (hB : n₀ ≤ B)
 (hown' : w1.ownsRow n₀ e size v' m ys) (hgrow : W.grownBy w1 v.ownBlock) :
 Boxed w1 B t v ∧ Boxed (w1.setCell ⟨B, 0, none⟩ v') B t v' ∧ (w1.setCell ⟨B, 0, none⟩ v').ownsRow n₀ e size v' m ys ∧ KeepsOthers W (w1.setCell ⟨B, 0, none⟩ v') ∧ Below n₀ W (w1.setCell ⟨B, 0, none⟩ v') := by
 have hv1 : Boxed w1 B t v := hv.kept hgrow (hv.not_row hte hrow)
 refine ⟨hv1, hv1.set v', hown'.kept (grownBy_setCell' w1 B v') (.inr (hv1.not_row hte hown').symm), ?_, ?_⟩
 ·refine (KeepsOthers.of_grownBy hgrow fun j o ej hj => ?_).trans (KeepsOthers.setCell _ _ _)
  rcases hrow.2 with ⟨rfl, _⟩ | ⟨g, cap, cur, rfl, _, hgb, _⟩
  ·simp [Value.ownBlock] at ej
  ·obtain rfl : g = j := by simpa [Value.ownBlock] using ej
   rw [hgb] at hj; cases hj; rfl
 ·refine ((Below.refl n₀ W).grown hgrow hn₀ fun j ej => ?_).setCell (p := ⟨B, 0, none⟩) hB v'
  rcases hrow.2 with ⟨rfl, _⟩ | ⟨g, cap, cur, rfl, hb, _, _⟩
  ·simp [Value.ownBlock] at ej
  ·obtain rfl : g = j := by simpa [Value.ownBlock] using ej
   exact hb
theorem NH (a : bF) (w : World) (h : a.In w w.heap.size) (Vz : a.bG.length ≤ 40) (hv : ∀ t ∈ a.bG, t.T.notes.length ≤ 60) :
 CallsIn Fence.wide 9 Tryz.prog 39 #[.agg a.cells.toArray] w fun e w' => ∃ v, e = .returned v ∧ w'.ownsRow w.heap.size 26 32 v (dz (a.bG.map aY.T)).length (cellsOf ak (dz (a.bG.map aY.T))) ∧ Below w.heap.size w w' := by
 have KA := qh (show au ((w.alloc (.cells a.cells.toArray 70)).alloc (.cells #[.slice none 0 0] 22)) w.heap.size 0 a.cells from au.ah ((ax.new _ _ _).alloc _))
 refine callsIn_of_wp_marks Tryz.func39 rfl trivial ?_ rfl
 refine wpIn_wide.2 ?_
 simp only [Tryz.ntmps39, List.size_toArray, List.length_cons, List.length_nil, Nat.reduceAdd, Nat.reduceSub, Array.replicate_succ, Array.replicate_zero, List.push_toArray, List.append_toArray, List.nil_append, List.cons_append]
 go_wp2_with (first
  | ((with_reducible refine az 1 ?_); refine fe.af rfl (.tmp 1) rfl w.heap.size 0 rfl a KA.out ?_))
 refine (callsIn_wide.1 (FX Fence.wide 9 (by omega) trivial trivial rfl a _)).mono ?_
 rintro e w' ⟨rfl, rfl⟩
 go_wp2_with fail
 rw [← wpIn_wide (n := 9)]
 have bN := ((Boxed.new (w.alloc (.cells a.cells.toArray 70)) 22 (.slice none 0 0)).alloc (.cells a.cells.toArray 70)).alloc (.cells #[.slice a.A a.bG.length a.c] 68)
 have bA := ax.new (((w.alloc (.cells a.cells.toArray 70)).alloc (.cells #[.slice none 0 0] 22)).alloc (.cells a.cells.toArray 70)) 68 #[.slice a.A a.bG.length a.c]
 simp only [World.size_alloc] at bN bA
 have hB0 : Below w.heap.size w ((((w.alloc (.cells a.cells.toArray 70)).alloc (.cells #[.slice none 0 0] 22)).alloc (.cells a.cells.toArray 70)).alloc (.cells #[.slice a.A a.bG.length a.c] 68)) := ((((Below.refl _ w).alloc (Nat.le_refl _) _).alloc (by simp) _).alloc (by simp; omega) _).alloc (by simp; omega) _
 have hsz : ((((w.alloc (.cells a.cells.toArray 70)).alloc (.cells #[.slice none 0 0] 22)).alloc (.cells a.cells.toArray 70)).alloc (.cells #[.slice a.A a.bG.length a.c] 68)).heap.size = w.heap.size + 4 := by simp
 obtain ⟨W0, hW0⟩ : ∃ W0, (((w.alloc (.cells a.cells.toArray 70)).alloc (.cells #[.slice none 0 0] 22)).alloc (.cells a.cells.toArray 70)).alloc (.cells #[.slice a.A a.bG.length a.c] 68) = W0 := ⟨_, rfl⟩
 rw [hW0] at bN bA hB0 hsz ⊢
 clear hW0 KA
 have IA := qh h
 have HV := qh hv
 clear h hv
 refine wpIn_rangeFunc_ownH rfl (by omega) (gf := 186) (lb := #[.pointer (some ⟨w.heap.size + 1 + 1 + 1, 0, none⟩)]) rfl trivial (enters_of Tryz.func186 (by kernel_rfl) rfl)
  (vk Fence.wide 8 trivial rfl (by omega) (w.heap.size + 1 + 1 + 1) w.heap.size a W0 (by omega) bA (IA.out.row.below hB0)) belowK_t (belowK_b (by omega)) (Below.refl _ _) (fun _ => rfl)
  (fun pre W => (∃ v, Boxed W (w.heap.size + 1) 22 v ∧ W.ownsRow w.heap.size 26 32 v (dz (pre.map fun x => x.1.T)).length (cellsOf ak (dz (pre.map fun x => x.1.T))) ∧ True) ∧ Below w.heap.size w W)
  (fun _ _ _ => False)
  (OwnFrom.and (Own.from (holdsRow_own w.heap.size (w.heap.size + 1) 22 26 32 (fun pre : List (LY a.bG) => (dz (pre.map fun x => x.1.T)).length) (fun pre : List (LY a.bG) => cellsOf ak (dz (pre.map fun x => x.1.T))) (fun _ _ => True)) _) (ownFrom_below (Nat.le_refl _) (by omega)))
  (fun _ _ _ _ _ hs _ _ => hs)
  ⟨⟨_, bN, World.ownsRow_nil _ _ _ _, trivial⟩, hB0⟩
  (fun x a' W => ∃ Bx, w.heap.size + 1 < Bx ∧ ax W Bx 92 x.1.cells.toArray ∧ a' = { tmps := #[.agg a.cells.toArray, .pointer (some ⟨w.heap.size, 0, none⟩), .slice none 0 0, .pointer (some ⟨w.heap.size + 1, 0, none⟩), .pointer (some ⟨Bx, 0, none⟩), .agg a.cells.toArray, .func (.func 186) #[] #[.pointer (some ⟨w.heap.size + 1 + 1 + 1, 0, none⟩)], .agg x.1.cells.toArray, undef, undef, undef, undef, undef], defers := [] })
  (fun x a' _ X Y row hs hg hr => by
   obtain ⟨Bx, h1, h2, h3⟩ := hs
   exact ⟨Bx, h1, qm h2 hg hr, h3⟩)
  ?assign ?body ?done ?stop
 case assign =>
  rintro l pre x W K ⟨⟨v, b1, o1, _⟩, hB1⟩ hK
  gi_wp2_with ((with_reducible refine oQ 4 7 ?_); refine di.ig rfl (.tmp 4) (.tmp 7) rfl rfl x.1 rfl rfl (by kernel_rfl) ?_)
  exact hK _ _ ((KeepsOthers.alloc _ _).from _) ((Below.refl _ W).alloc hB1.size _) ⟨⟨v, b1.alloc _, o1.alloc _, trivial⟩, hB1.alloc hB1.size _⟩ ⟨W.heap.size, b1.lt, ax.new W _ _, rfl⟩
 case body =>
  rintro l pre x a' W hl ⟨r, hr⟩ ⟨⟨v, b1, o1, _⟩, hB1⟩ ⟨Bx, hBx, bX, rfl⟩ hlt
  have YT := qh (show x.1.In W W.heap.size from aY.In.on (IA.out.each x.1 x.2) hB1 (Nat.le_refl _))
  have HX := qh (HV.out x.1 x.2)
  have hq := Gy (pre.map fun x => x.1.T) (fun T hT => by obtain ⟨y, _, rfl⟩ := List.mem_map.1 hT; exact HV.out y.1 y.2)
  rw [List.length_map] at hq
  have HQ := qh (show (dz (pre.map fun x => x.1.T)).length ≤ 2400 by omega)
  have HN := qh (show dz ((pre ++ [x]).map fun x => x.1.T) = dz (pre.map fun x => x.1.T) ++ x.1.T.notes by rw [List.map_append]; exact En _ _)
  obtain ⟨q, hqq⟩ : ∃ q, dz (pre.map fun x => x.1.T) = q := ⟨_, rfl⟩
  rw [hqq] at o1 HQ HN
  obtain ⟨q2, hq2⟩ : ∃ q2, q ++ x.1.T.notes = q2 := ⟨_, rfl⟩
  rw [hq2] at HN
  have sV := qh hq2
  clear hqq hq hq2
  have cV := b1.cell
  have K1 := qh b1
  have O1 := qh o1
  have HB1 := qh hB1
  have cT := aY.c5 (au.ah bX)
  clear b1 o1 hB1 bX
  gi_wp2_with ((with_reducible refine FI 11 8 10 ?_); refine eH.sZ rfl ZW 32 ZY (by omega) (.tmp 8) (.tmp 10) rfl w.heap.size v q rfl O1.out W.heap.size _ _ x.1.T.notes rfl YT.out.notes (by have := HQ.out; have := HX.out; omega) HB1.out.size ?_; intro v' w1 own' grow'; rw [sV.out] at own'; obtain ⟨b2, b3, o3, k3, l3⟩ := zk K1.out (by decide) O1.out HB1.out.size (Nat.le_add_right _ _) own' grow'; have cF := b2.cell; have fF := b2.frozen; have K3 := qh b3; have O3 := qh o3; have F3 := qh k3; have L3 := qh l3; obtain ⟨A', c', hv'⟩ := ek own'; clear own' grow' b2 b3 o3 k3 l3; subst hv')
  refine ⟨F3.out.from _, L3.out, ⟨_, K3.out, ?_, trivial⟩, HB1.out.trans L3.out⟩
  rw [HN.out]
  exact O3.out
 case done =>
  rintro D ys W hD rfl ⟨⟨v, b1, o1, _⟩, hB1⟩ hK
  have cN := b1.cell
  have O1 := qh o1
  clear o1
  go_wp2
  refine ⟨by simp, .inl ⟨_, _, rfl, run_takeDeferred hK, ?_⟩⟩
  refine ⟨_, results_tmp rfl _ _ _, v, rfl, ?_, hB1.trans (belowK_b (w := w) (Nat.le_refl _) W D _ _ (by omega) hK rfl rfl)⟩
  rw [zn a.bG]
  exact ownsRow_putObj O1.out _ hK rfl
 case stop =>
  rintro D c pre W _ _ h _
  exact h.elim
end
section
open Go.RowKit Go.Shelf
attribute [local go_sem] Oper.semAt_some
abbrev oZ (B b : Nat) (l : List UInt8) (w : World) : Prop := Lib.IsBuilderF 97 5 B b (Lib.byteCells l) w
theorem Gw {w w' : World} {B e size n : Nat} {v : Value} {xs : List Value} (h : w.ownsRowF B e size v n xs) (hb : Below w.heap.size w w') : w'.ownsRowF B e size v n xs := by
 refine ⟨h.1, ?_⟩
 rcases h.2 with hn | ⟨g, cap, cur, fz, rfl, hg, hgg, rest⟩
 ·exact .inl hn
 ·exact .inr ⟨g, cap, cur, fz, rfl, hg, by rw [hb.block g (Array.getElem?_eq_some_iff.1 hgg).1]; exact hgg, rest⟩
theorem uS {T e : TypeId} {B b : Nat} {p : Value} {bs : List Value} {w w' : World} (h : Lib.BuilderAtF T e B b p bs w) (hb : Below w.heap.size w w') : Lib.BuilderAtF T e B b p bs w' := by
 obtain ⟨hB, v, hbk, hown, hne⟩ := h
 exact ⟨hB, v, by rw [hb.block b (Array.getElem?_eq_some_iff.1 hbk).1]; exact hbk, Gw hown hb, hne⟩
theorem lX {B b : Nat} {l : List UInt8} {w w' : World} (h : oZ B b l w) (hb : Below w.heap.size w w') : oZ B b l w' :=
 h.elim (fun x => .inl (uS x hb)) (fun x => .inr (uS x hb))
theorem wK {T e : TypeId} {B b B0 : Nat} {p : Value} {bs : List Value} {X Y : World} {row : Option Nat} (h : Lib.BuilderAtF T e B b p bs X) (hg : X.grownBy Y row) (hr : ∀ r, row = some r → B0 ≤ r ∧ ∃ o : Obj, X.heap[r]? = some o ∧ o.isCells = false) : Lib.BuilderAtF T e B b p bs Y := by
 obtain ⟨hB, v, hbk, hown, hne⟩ := h
 refine ⟨hB, v, (hg.block b (Array.getElem?_eq_some_iff.1 hbk).1 (fun q => ?_)).trans hbk, hown.kept hg ?_, hne⟩
 ·obtain ⟨_, o, ho, hc⟩ := hr b q.symm
  rw [hbk] at ho; cases ho; cases hc
 ·rcases hown.2 with ⟨rfl, _⟩ | ⟨g, cap, cur, fz, rfl, _, hgg, _⟩
  ·exact .inl rfl
  ·refine .inr fun q => ?_
   obtain ⟨_, o, ho, hc⟩ := hr g (by simpa [Value.ownBlock] using q.symm)
   rw [hgg] at ho; cases ho; cases hc
theorem Bj {B b B0 : Nat} {l : List UInt8} {X Y : World} {row : Option Nat} (h : oZ B b l X) (hg : X.grownBy Y row) (hr : ∀ r, row = some r → B0 ≤ r ∧ ∃ o : Obj, X.heap[r]? = some o ∧ o.isCells = false) : oZ B b l Y :=
 h.elim (fun x => .inl (wK x hg hr)) (fun x => .inr (wK x hg hr))
theorem LC {B b B' : Nat} {l : List UInt8} {w : World} {t : TypeId} {v : Value} (h : oZ B b l w) (hx : Boxed w B' t v) (h1 : 97 ≠ t) (h2 : 5 ≠ t) (u : Value) : oZ B b l (w.setCell ⟨B', 0, none⟩ u) := by
 have one : ∀ {p : Value}, Lib.BuilderAtF 97 5 B b p (Lib.byteCells l) w → Lib.BuilderAtF 97 5 B b p (Lib.byteCells l) (w.setCell ⟨B', 0, none⟩ u) := by
  rintro p ⟨hB, v', hbk, hown, hne⟩
  have hg := grownBy_setCell' w B' u
  refine ⟨hB, v', (hg.block b (Array.getElem?_eq_some_iff.1 hbk).1 (fun q => ?_)).trans hbk, hown.kept hg ?_, hne⟩
  ·cases q
   rw [show w.heap[b]? = _ from hx] at hbk
   injection hbk with hbk
   injection hbk with _ q _
   exact h1 q.symm
  ·rcases hown.2 with ⟨rfl, _⟩ | ⟨g, cap, cur, fz, rfl, _, hgg, _⟩
   ·exact .inl rfl
   ·refine .inr fun q => ?_
    obtain rfl : g = B' := by simpa [Value.ownBlock] using q
    rw [show w.heap[g]? = _ from hx] at hgg
    injection hgg with hgg
    injection hgg with _ q _
    exact h2 q.symm
 exact h.elim (fun x => .inl (one x)) (fun x => .inr (one x))
theorem Qn (B b : Nat) (l s : List UInt8) (w : World) (h : oZ B b l w) (hlen : l.length + s.length ≤ 1000000) (hBw : B ≤ w.heap.size) :
 Calls Tryz.prog 56 #[.pointer (some ⟨b, 0, none⟩), .string ⟨s.toArray⟩] w fun e w' => e = .returned (.tuple #[.int .i64 s.length, .nilIface]) ∧ oZ B b (l ++ s) w' ∧ Below B w w' ∧ Lib.OthersKept 5 (some b) w w' := by
 refine (Any.Builder_WriteString_k IU vZ B b _ ⟨s.toArray⟩ w h (by rw [oP, gG]; omega) hBw).mono ?_
 rintro e w' ⟨rfl, g, hb, hk⟩
 rw [gG]
 refine ⟨rfl, .inr ?_, hb, hk⟩
 rw [← jT]
 have e : Lib.strCells ⟨s.toArray⟩ = Lib.byteCells s := by simp [Lib.strCells_eq]
 rw [e] at g
 exact g
theorem Qo (B b : Nat) (l : List UInt8) (w : World) (h : oZ B b l w) (hBw : B ≤ w.heap.size) :
 Calls Tryz.prog 48 #[.pointer (some ⟨b, 0, none⟩)] w fun e w' => e = .returned (.string ⟨l.toArray⟩) ∧ oZ B b l w' ∧ Below B w w' ∧ Lib.OthersKept 5 (some b) w w' := Any.Builder_String_any_k IQ vZ B b l w h hBw
theorem Ci {b g : Nat} {t : TypeId} {cs : Array Value} {w w' : World} (hk : Lib.OthersKept 5 (some b) w w') (h : ax w g t cs) (hg : g ≠ b) (ht : t ≠ 5) : ax w' g t cs :=
 hk g _ h (by simpa using hg) (fun c fz q => by injection q with _ q _; exact ht q)
theorem NA {b : Nat} {cs : Array Value} {t : TypeId} {fz : Nat × Nat} {w w' : World} (hk : Lib.OthersKept 5 (some b) w w') (hb : w.heap[b]? = some (.cells cs t fz)) (hz : w.heap.size ≤ w'.heap.size) (B : Nat) : KeepsFrom B w w' :=
 ⟨hz, fun k o _ hk0 ho => hk k o hk0 (fun q => by cases q; rw [hb] at hk0; cases hk0; cases ho) (fun c fz q => by subst q; cases ho)⟩
theorem zm {B b : Nat} {l : List UInt8} {w : World} (h : oZ B b l w) : ∃ cs t fz, w.heap[b]? = some (.cells cs t fz) := by
 rcases h with ⟨_, v, hb, _⟩ | ⟨_, v, hb, _⟩ <;> exact ⟨_, _, _, hb⟩
theorem Ia (w : World) {W : World} (hW : W = w.alloc (.cells #[.pointer none, .slice none 0 0] 97)) : oZ w.heap.size w.heap.size [] W := Lib.IsBuilderF.of (qQ w _ _ hW)
theorem Fy (n : Nat) (hn : n ≤ 18446744073709551615) (w : World) :
 Calls Tryz.prog 42 #[.int .u64 n] w fun e w' => e = .returned (.int .i64 (if n = 0 then 110 else if 30 < n then 51 else 0)) ∧ w' = w := by
 by_cases h0 : n = 0
 ·subst h0
  go_enter Tryz.func42, Tryz.ntmps42
  go_wp2
  go_ret
  exact ⟨rfl, rfl⟩
 have hd0 : ((n : Int) == 0) = false := beq_eq_false_iff_ne.mpr (by omega)
 rw [if_neg h0]
 by_cases h30 : 30 < n
 ·have hd1 : decide ((30 : Int) < (n : Int)) = true := by simp; omega
  rw [if_pos h30]
  clear h0
  go_enter Tryz.func42, Tryz.ntmps42
  go_wp2
  go_ret
  exact ⟨rfl, rfl⟩
 ·have hd1 : decide ((30 : Int) < (n : Int)) = false := by simp; omega
  rw [if_neg h30]
  clear h0
  go_enter Tryz.func42, Tryz.ntmps42
  go_wp2
  go_ret
  exact ⟨rfl, rfl⟩
end
section
open Go.RowKit Go.Shelf
attribute [local go_sem] Oper.semAt_some
theorem Mk {T : dX} (h : ry T) : (vz T).length ≤ 6000 := by
 have hlen := tK T h
 obtain ⟨o1, o2, o3, o4, _⟩ := h
 split at hlen <;> omega
theorem sK : ∀ (l : List dX) (s : List UInt8), dG l = .ok s → s.length ≤ 6000 * l.length
 | [], s, h => by injection h with h; subst h; simp
 | T :: l, s, h => by
  unfold dG at h
  split at h
  ·rename_i h0
   split at h
   ·rename_i s' e
    injection h with h
    have h1 := sK l s' e
    have h2 := vU h0
    have h3 := Mk h2.1
    rw [← h, List.length_append, List.length_cons, h2.2]
    omega
   ·cases h
  ·cases h
def QL (B gw : Nat) (w : World) (x : Except Int (List UInt8)) (e : Ending) (w' : World) : Prop :=
 Below B w w' ∧ match x with
 | .ok s => e = .returned (.int .i64 0) ∧ oZ B gw s w'
 | .error er => e = .returned (.int .i64 er)
theorem LY.pre {l : List aY} {k : Nat} {pre : List (LY l)} {x : LY l} (h : pre ++ [x] = l.attach.take k) : ∃ m, l = pre.map (·.1) ++ x.1 :: m := by
 have h1 := congrArg (List.map (·.1)) h
 rw [wY, List.map_append] at h1
 refine ⟨l.drop k, ?_⟩
 have h2 := (List.take_append_drop k l).symm
 rw [← h1] at h2
 simpa using h2
theorem Db (B gw : Nat) (a : bF) (w : World) (hB : B ≤ w.heap.size) (h : a.In w B) (ZA : a.bG.length ≤ 60) (hb : oZ B gw [] w) :
 CallsIn Fence.wide 9 Tryz.prog 44 #[.pointer (some ⟨gw, 0, none⟩), .agg a.cells.toArray] w (QL B gw w (dG (a.bG.map aY.T))) := by
 have KA := qh (show au (((w.alloc (.cells #[.pointer (some ⟨gw, 0, none⟩)] 95)).alloc (.cells a.cells.toArray 70)).alloc (.cells #[.int .i64 0] 30)) (w.heap.size + 1) 0 a.cells from au.ah (by have := ((ax.new (w.alloc (.cells #[.pointer (some ⟨gw, 0, none⟩)] 95)) 70 a.cells.toArray).alloc (.cells #[.int .i64 0] 30)); rw [World.size_alloc] at this; exact this))
 refine callsIn_of_wp_marks Tryz.func44 rfl trivial ?_ rfl
 refine wpIn_wide.2 ?_
 simp only [Tryz.ntmps44, List.size_toArray, List.length_cons, List.length_nil, Nat.reduceAdd, Nat.reduceSub, Array.replicate_succ, Array.replicate_zero, List.push_toArray, List.append_toArray, List.nil_append, List.cons_append]
 go_wp2_with (first
  | ((with_reducible refine az 3 ?_); refine fe.af rfl (.tmp 3) rfl (w.heap.size + 1) 0 rfl a KA.out ?_))
 refine (callsIn_wide.1 (FX Fence.wide 9 (by omega) trivial trivial rfl a _)).mono ?_
 rintro e w' ⟨rfl, rfl⟩
 go_wp2_with fail
 rw [← wpIn_wide (n := 9)]
 have bP := ((((Boxed.new w 95 (.pointer (some ⟨gw, 0, none⟩))).alloc (.cells a.cells.toArray 70)).alloc (.cells #[.int .i64 0] 30)).alloc (.cells a.cells.toArray 70)).alloc (.cells #[.slice a.A a.bG.length a.c] 68)
 have bE := ((Boxed.new ((w.alloc (.cells #[.pointer (some ⟨gw, 0, none⟩)] 95)).alloc (.cells a.cells.toArray 70)) 30 (.int .i64 0)).alloc (.cells a.cells.toArray 70)).alloc (.cells #[.slice a.A a.bG.length a.c] 68)
 have bA := ax.new ((((w.alloc (.cells #[.pointer (some ⟨gw, 0, none⟩)] 95)).alloc (.cells a.cells.toArray 70)).alloc (.cells #[.int .i64 0] 30)).alloc (.cells a.cells.toArray 70)) 68 #[.slice a.A a.bG.length a.c]
 simp only [World.size_alloc] at bP bE bA
 have hB0 : Below w.heap.size w (((((w.alloc (.cells #[.pointer (some ⟨gw, 0, none⟩)] 95)).alloc (.cells a.cells.toArray 70)).alloc (.cells #[.int .i64 0] 30)).alloc (.cells a.cells.toArray 70)).alloc (.cells #[.slice a.A a.bG.length a.c] 68)) := (((((Below.refl _ w).alloc (Nat.le_refl _) _).alloc (by simp) _).alloc (by simp; omega) _).alloc (by simp; omega) _).alloc (by simp; omega) _
 have hsz : (((((w.alloc (.cells #[.pointer (some ⟨gw, 0, none⟩)] 95)).alloc (.cells a.cells.toArray 70)).alloc (.cells #[.int .i64 0] 30)).alloc (.cells a.cells.toArray 70)).alloc (.cells #[.slice a.A a.bG.length a.c] 68)).heap.size = w.heap.size + 5 := by simp
 obtain ⟨W0, hW0⟩ : ∃ W0, (((((w.alloc (.cells #[.pointer (some ⟨gw, 0, none⟩)] 95)).alloc (.cells a.cells.toArray 70)).alloc (.cells #[.int .i64 0] 30)).alloc (.cells a.cells.toArray 70)).alloc (.cells #[.slice a.A a.bG.length a.c] 68)) = W0 := ⟨_, rfl⟩
 rw [hW0] at bP bE bA hB0 hsz ⊢
 clear hW0 KA
 have IA := qh h
 have GL := qh (show gw < w.heap.size from by obtain ⟨_, _, _, q⟩ := zm hb; exact (Array.getElem?_eq_some_iff.1 q).1)
 have HG := lX hb hB0
 clear h hb
 refine wpIn_rangeFunc_ownH rfl (by omega) (gf := 186) (lb := #[.pointer (some ⟨w.heap.size + 1 + 1 + 1 + 1, 0, none⟩)]) rfl trivial (enters_of Tryz.func186 (by kernel_rfl) rfl)
  (vk Fence.wide 8 trivial rfl (by omega) (w.heap.size + 1 + 1 + 1 + 1) B a W0 (by omega) bA (IA.out.row.below (hB0.mono hB))) belowK_t (belowK_b (by omega)) (Below.refl _ _) (fun _ => rfl)
  (fun pre W => ((∃ s, dG (pre.map fun x => x.1.T) = .ok s ∧ oZ B gw s W) ∧ Boxed W w.heap.size 95 (.pointer (some ⟨gw, 0, none⟩)) ∧ Boxed W (w.heap.size + 1 + 1) 30 (.int .i64 0)) ∧ Below B w W)
  (fun c pre W => (c = .ret ∧ ∃ m x, pre = m ++ [x] ∧ ∃ s, dG (m.map fun x => x.1.T) = .ok s ∧ (fA x.1.T).2 ≠ 0 ∧ Boxed W (w.heap.size + 1 + 1) 30 (.int .i64 (fA x.1.T).2)) ∧ Below B w W)
  (OwnFrom.and (fun s X Y row hs hg hr => by
   obtain ⟨⟨q, h1, h2⟩, h3, h4⟩ := hs
   exact ⟨⟨q, h1, Bj h2 hg hr⟩, qm h3 hg hr, qm h4 hg hr⟩) (ownFrom_below hB (by omega)))
  (fun c => OwnFrom.and (fun s X Y row hs hg hr => by
   obtain ⟨h1, m, x, h2, q, h3, h4, h5⟩ := hs
   exact ⟨h1, m, x, h2, q, h3, h4, qm h5 hg hr⟩) (ownFrom_below hB (by omega)))
  ⟨⟨⟨[], rfl, HG⟩, bP, bE⟩, hB0.mono hB⟩
  (fun x a' W => ∃ Bx, w.heap.size + 1 + 1 < Bx ∧ ax W Bx 92 x.1.cells.toArray ∧ a' = { tmps := #[.pointer (some ⟨gw, 0, none⟩), .agg a.cells.toArray, .pointer (some ⟨w.heap.size, 0, none⟩), .pointer (some ⟨w.heap.size + 1, 0, none⟩), .pointer (some ⟨w.heap.size + 1 + 1, 0, none⟩), .pointer (some ⟨Bx, 0, none⟩), undef, undef, .agg a.cells.toArray, .func (.func 186) #[] #[.pointer (some ⟨w.heap.size + 1 + 1 + 1 + 1, 0, none⟩)], .agg x.1.cells.toArray, undef, undef, undef, undef, undef, undef, undef, undef, undef, undef, undef], defers := [] })
  (fun x a' _ X Y row hs hg hr => by
   obtain ⟨Bx, h1, h2, h3⟩ := hs
   exact ⟨Bx, h1, qm h2 hg hr, h3⟩)
  ?assign ?body ?done ?stop
 case assign =>
  rintro l pre x W K ⟨⟨⟨s, h1, g1⟩, b1, b2⟩, hB1⟩ hK
  gi_wp2_with ((with_reducible refine oQ 5 10 ?_); refine di.ig rfl (.tmp 5) (.tmp 10) rfl rfl x.1 rfl rfl (by kernel_rfl) ?_)
  exact hK _ _ ((KeepsOthers.alloc _ _).from _) ((Below.refl _ W).alloc (Nat.le_trans hB hB1.size) _) ⟨⟨⟨s, h1, lX g1 ((Below.refl _ _).alloc (Nat.le_refl _) _)⟩, b1.alloc _, b2.alloc _⟩, hB1.alloc (Nat.le_trans hB hB1.size) _⟩ ⟨W.heap.size, b2.lt, ax.new W _ _, rfl⟩
 case body =>
  rintro l pre x a' W hl ⟨r, hr⟩ ⟨⟨⟨s, h1, g1⟩, b1, b2⟩, hB1⟩ ⟨Bx, hBx, bX, rfl⟩ hlt
  have YT := qh (show x.1.In W W.heap.size from aY.In.on (IA.out.each x.1 x.2) hB1 hB)
  have HL := qh (show s.length ≤ 6000 * 60 by
   have := sK _ s h1
   rw [List.length_map] at this
   omega)
  have HE := qh h1
  have KG := qh g1
  have K1 := qh b1
  have K2 := qh b2
  have KX := qh bX
  have HB1 := qh hB1
  have HBZ := qh hB
  have HBX := qh hBx
  clear h1 g1 b1 b2 bX hB1
  obtain ⟨TE, Yj⟩ : ∃ TE, fA x.1.T = TE := ⟨_, rfl⟩
  obtain ⟨bs, er⟩ := TE
  have UW := qh Yj
  have HSN := qh (show er = 0 → bs.length ≤ 6000 ∧ dG ((pre ++ [x]).map fun x => x.1.T) = .ok (s ++ bs) from fun h0 => by
   have h2 : (fA x.1.T).2 = 0 := by rw [Yj]; exact h0
   have h3 := vU h2
   refine ⟨by have := Mk h3.1; rw [← h3.2, Yj] at this; exact this, ?_⟩
   rw [List.map_append]
   have h4 := Fa (pre.map fun x => x.1.T) x.1.T s HE.out
   rw [if_pos h2, Yj] at h4
   exact h4)
  clear Yj
  gi_wp2_with (first
   | ((with_reducible refine qR 5 ?_); refine di.iP rfl (.tmp 5) rfl Bx 0 rfl x.1 (au.ah KX.out) ?_)
   | (refine ⟨trivial, ?_⟩; gi_at_call 68; refine (CallsIn.inRound l (callsIn_wide.2 (uN x.1 _ YT.out))).mono ?_
      rintro e w1 ⟨rfl, hb⟩
      have KF := qh (show KeepsFrom W0.heap.size W w1 from ⟨hb.size, fun k o _ hk _ => (hb.block k (Array.getElem?_eq_some_iff.1 hk).1).trans hk⟩)
      have HB2 := qh (hb.mono (Nat.le_trans HBZ.out HB1.out.size))
      have K3 := qh (show Boxed w1 w.heap.size 95 (.pointer (some ⟨gw, 0, none⟩)) from (hb.block _ K1.out.lt).trans K1.out)
      have K4 := qh (show Boxed w1 (w.heap.size + 1 + 1) 30 (.int .i64 0) from (hb.block _ K2.out.lt).trans K2.out)
      have KG2 := qh (lX KG.out hb)
      have cP := K3.out.cell
      have cN := K4.out.cell
      have fN := K4.out.frozen
      rw [UW.out]
      unfold q9
      clear hb K1 K2 KX KG
      obtain ⟨r0, hd⟩ : ∃ r0, (er == 0) = r0 := ⟨_, rfl⟩
      have HD := qh hd
      cases r0)
   | (refine ⟨trivial, ?_⟩; gi_at_call 56; refine (CallsIn.inRound l (callsIn_wide.2 (Qn B gw s bs _ KG2.out (by have := HL.out; have := (HSN.out (eq_of_beq HD.out)).1; omega) (Nat.le_trans HBZ.out (Nat.le_trans HB1.out.size HB2.out.size))))).mono ?_
      rintro e w2 ⟨rfl, g2, hb2, Zi⟩
      have KF2 := qh (show KeepsFrom W0.heap.size w1 w2 from by obtain ⟨_, _, _, q⟩ := zm KG2.out; exact NA Zi q hb2.size _)
      have K5 := qh (show Boxed w2 w.heap.size 95 (.pointer (some ⟨gw, 0, none⟩)) from Ci Zi K3.out (by have := GL.out; omega) (by decide))
      have K6 := qh (show Boxed w2 (w.heap.size + 1 + 1) 30 (.int .i64 0) from Ci Zi K4.out (by have := GL.out; omega) (by decide))
      have G3 := qh g2
      have HB3 := qh hb2
      clear g2 hb2 Zi))
  ·refine ⟨KF.out.trans ((KeepsOthers.setCell _ _ _).from _), ⟨rfl, pre, x, rfl, s, HE.out, ?_, ?_⟩, (HB1.out.trans HB2.out).setCell (p := ⟨w.heap.size + 1 + 1, 0, none⟩) (by have := HBZ.out; simp; omega) _⟩
   ·rw [UW.out]
    exact ne_of_beq_false HD.out
   ·rw [UW.out]
    exact K4.out.set _
  ·refine ⟨KF.out.trans KF2.out, HB2.out.trans HB3.out, ⟨⟨s ++ bs, (HSN.out (eq_of_beq HD.out)).2, G3.out⟩, K5.out, K6.out⟩, HB1.out.trans (HB2.out.trans HB3.out)⟩
 case done =>
  rintro D ys W hD rfl ⟨⟨⟨s, h1, g1⟩, b1, b2⟩, hB1⟩ hK
  have cN := b2.cell
  have fN := b2.frozen
  have HE := qh h1
  have KG := qh g1
  clear h1 g1
  go_wp2
  have hK' := (KeepsOthers.setCell W ⟨w.heap.size + 1 + 1, 0, none⟩ (.int .i64 0)).same D _ hK rfl
  refine ⟨by simp, .inl ⟨_, _, rfl, run_takeDeferred hK', ?_⟩⟩
  have hc5 := cell_kept (b2.set (.int .i64 0)).cell (grownBy_putObj' _ D (.deferred none)) (fun r e => by cases e; exact ⟨_, hK', rfl⟩)
  refine ⟨.int .i64 0, by simp [results, Tryz.f44, go_sem, hc5], ?_⟩
  have hgb := (hB1.setCell (p := ⟨w.heap.size + 1 + 1, 0, none⟩) (by simp; omega) (.int .i64 0)).trans ((belowK_b (w := w) (Nat.le_refl _) _ D _ (.deferred none) (by omega) hK' rfl rfl).mono hB)
  refine ⟨hgb, ?_⟩
  rw [zn a.bG, HE.out]
  exact ⟨rfl, Bj (B0 := 0) (LC KG.out b2 (by decide) (by decide) (.int .i64 0)) (grownBy_putObj' _ D (.deferred none)) (fun r e => by cases e; exact ⟨Nat.zero_le _, _, hK', rfl⟩)⟩
 case stop =>
  rintro D c pre W hD ⟨k, hk, hpre⟩ ⟨⟨rfl, m, x, hm, s, h1, h2, h3⟩, hB1⟩ hK
  have HE := qh (show dG (a.bG.map aY.T) = .error (fA x.1.T).2 by
   obtain ⟨m', hm'⟩ := LY.pre (hm.symm.trans hpre)
   have e := congrArg (List.map aY.T) hm'
   rw [List.map_append, List.map_cons, List.map_map] at e
   rw [e]
   exact Cv _ _ _ s h1 h2)
  clear hpre hm h1
  gi_wp2
  refine ⟨by simp, .inl ⟨_, _, rfl, run_takeDeferred hK, ?_⟩⟩
  have hc5 := cell_kept h3.cell (grownBy_putObj' _ D (.deferred none)) (fun r e => by cases e; exact ⟨_, hK, rfl⟩)
  refine ⟨.int .i64 (fA x.1.T).2, by simp [results, Tryz.f44, go_sem, hc5], ?_⟩
  refine ⟨hB1.trans ((belowK_b (w := w) (Nat.le_refl _) W D _ (.deferred none) (by omega) hK rfl rfl).mono hB), ?_⟩
  rw [HE.out]
end
end Go.Proofs.YtnpmpeoojncjhaaGreatDoor
