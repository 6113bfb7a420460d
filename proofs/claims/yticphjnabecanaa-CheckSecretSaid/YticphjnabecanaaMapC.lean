/- A map from values of k cells (arrays, structs) to counts, which the call made: looked up, counted up ('m[x]++'), measured. Over any program. -/
import Derived.Test.YticphjnabecanaaGenA
import Derived.Test.YticphjnabecanaaKeyM
import Derived.Maps.Own
namespace Go.Proofs.Yticphjnabecanaa
open Go.RowKit Go.MapKept
theorem findIdx_arrC (xs : Array MapEntry) (p : MapEntry → Bool) : xs.findIdx? p = xs.toList.findIdx? p := by
  cases xs
  simp
theorem set_selfC {α : Type} : ∀ (l : List α) (j : Nat) (a : α), l[j]? = some a → l.set j a = l
  | [], _, _, h => by simp at h
  | b :: r, 0, a, h => by simp at h; subst h; rfl
  | b :: r, j + 1, a, h => by simp at h; simp [set_selfC r j a h]
theorem run_checkKey_bytes_d {P : Program} {w : World} {tk eb : TypeId} (d : Nat) (hk : P.underlying tk = some (.array 32 eb)) (he : P.underlying eb = some (.int .u8)) (hc : P.cellsOf eb = 1) (em : Bool) (x : K32) :
    (Instr.checkKey em (d + 2) tk (.agg (bytesA x.1))).run P w = .ok () w := by
  obtain ⟨i, hi⟩ := info_of_underlying he
  have hp : P.plainKey eb = true := by simp [Program.plainKey, he]
  rw [show d + 2 = (d + 1) + 1 from rfl, Instr.checkKey]
  simp only [Sem.run_bind, run_underlying hk, Result.andThen_ok]
  simp only [Std.Legacy.Range.forIn_eq_forIn_range', Std.Legacy.Range.size, Nat.sub_zero, Nat.add_one_sub_one, Nat.div_one]
  have each : ∀ j ∈ List.range' 0 32, j < 32 := by
    intro j hj
    rw [← List.range_eq_range'] at hj
    exact List.mem_range.1 hj
  generalize List.range' 0 32 = is at each
  induction is with
  | nil => simp
  | cons j is ih =>
    have hj : j < x.1.length := by rw [x.2]; exact each j (by simp)
    have p1 := run_part_plain (P := P) w hp (xs := bytesA x.1) (off := j * 1) (v := .int .u8 (x.1[j]'hj).toNat) (by rw [Nat.mul_one]; exact bytesA_get x.1 j hj)
    have p2 : (Instr.checkKey em (d + 1) eb (.int .u8 (x.1[j]'hj).toNat)).run P w = .ok () w := by
      rw [Instr.checkKey]
      simp [run_underlying he]
    simp only [List.forIn_cons, Sem.run_bind, run_sizeOf w hi, hc, Result.andThen_ok, p1, p2, Sem.run_pure]
    exact ih (fun y hy => each y (by simp [hy]))
theorem sameBits_cells (n : Nat) : ∀ l : List Value, (∀ v ∈ l, Instr.sameBits n v v = true) → (l.zip l).all (fun (x, y) => Instr.sameBits n x y) = true
  | [], _ => rfl
  | v :: l, h => by
    simp only [List.zip_cons_cons, List.all_cons, h v (by simp), Bool.true_and]
    exact sameBits_cells n l fun u hu => h u (by simp [hu])
/-- what the laws on a map's block need of the type of its keys -/
structure KeyTy (P : Program) (tk : TypeId) {α : Type} [DecidableEq α] (enc : α → List Value) : Prop where
  desc : ∃ d, P.underlying tk = some d
  check : ∀ (em : Bool) (x : α) (w : World), (Instr.checkKey em 10000 tk (.agg (enc x).toArray)).run P w = .ok () w
  ask : ∀ (x y : α) (w : World), (Op.equal tk (.agg (enc x).toArray) (.agg (enc y).toArray)).run P w = .ok (decide (x = y)) w
  bits : ∀ x : α, ∀ v ∈ enc x, Instr.sameBits 9999 v v = true
section
variable {P : Program} {w : World} {t tk te : TypeId} {α : Type} {enc : α → List Value}
/-- the entries of a map, by their keys and counts, born one behind the other -/
def entC (enc : α → List Value) : List (α × Int) → Nat → List MapEntry
  | [], _ => []
  | p :: m, i => ⟨.agg (enc p.1).toArray, .int .i64 p.2, i⟩ :: entC enc m (i + 1)
theorem entC_len : ∀ (m : List (α × Int)) (i : Nat), (entC enc m i).length = m.length
  | [], _ => rfl
  | _ :: m, i => by simp [entC, entC_len m (i + 1)]
theorem entC_append : ∀ (m m' : List (α × Int)) (i : Nat), entC enc (m ++ m') i = entC enc m i ++ entC enc m' (i + m.length)
  | [], m', i => by simp [entC]
  | p :: m, m', i => by simp [entC, entC_append m m' (i + 1), show i + 1 + m.length = i + (m.length + 1) by omega]
theorem entC_get : ∀ (m : List (α × Int)) (i j : Nat) (p : α × Int), m[j]? = some p → (entC enc m i)[j]? = some ⟨.agg (enc p.1).toArray, .int .i64 p.2, i + j⟩
  | [], _, _, _, h => by simp at h
  | q :: m, i, 0, p, h => by simp at h; subst h; rfl
  | q :: m, i, j + 1, p, h => by
    simp at h
    have := entC_get m (i + 1) j p h
    simp [entC, this]
    omega
theorem entC_set : ∀ (m : List (α × Int)) (i j : Nat) (p : α × Int), j < m.length → entC enc (m.set j p) i = (entC enc m i).set j ⟨.agg (enc p.1).toArray, .int .i64 p.2, i + j⟩
  | [], _, _, _, h => by simp at h
  | q :: m, i, 0, p, _ => by simp [entC]
  | q :: m, i, j + 1, p, h => by
    simp at h
    simp [entC, entC_set m (i + 1) j p h, show i + 1 + j = i + (j + 1) by omega]
theorem entC_born : ∀ (m : List (α × Int)) (i j : Nat), j < m.length → (entC enc m i).findIdx? (fun e => (e.born : Int) == ((i + j : Nat) : Int)) = some j
  | [], _, _, h => by simp at h
  | q :: m, i, 0, _ => by simp [entC, List.findIdx?_cons]
  | q :: m, i, j + 1, h => by
    simp at h
    have hb : (((i : Nat) : Int) == ((i + (j + 1) : Nat) : Int)) = false := by
      rw [beq_eq_false_iff_ne]; omega
    have := entC_born m (i + 1) j h
    rw [show i + 1 + j = i + (j + 1) by omega] at this
    simp only [entC, List.findIdx?_cons, hb, this]
    simp
/-- block b is a map of the counts m -/
def MapC (enc : α → List Value) (w : World) (b : Nat) (m : List (α × Int)) : Prop := w.heap[b]? = some (.map (entC enc m 0).toArray m.length)
theorem MapC.new (w : World) : MapC enc (w.alloc (.map #[] 0)) w.heap.size [] := heap_alloc_new w _
theorem MapC.lt {b : Nat} {m : List (α × Int)} (h : MapC enc w b m) : b < w.heap.size := (Array.getElem?_eq_some_iff.1 h).1
theorem MapC.below {b B : Nat} {m : List (α × Int)} {w' : World} (h : MapC enc w b m) (hb : Below B w w') (hlt : b < B) : MapC enc w' b m := (hb.block b hlt).trans h
theorem MapC.drew {b : Nat} {m : List (α × Int)} (h : MapC enc w b m) : MapC enc w.drew b m := h
theorem MapC.only {b : Nat} {m : List (α × Int)} {L : List Nat} {w' : World} (h : MapC enc w b m) (ho : Only L w w') (hb : b ∉ L) : MapC enc w' b m := (ho.block b hb).trans h
theorem MapC.blk_ne {b g : Nat} {m : List (α × Int)} {u : TypeId} {cs : Array Value} (h : MapC enc w b m) (hb : Blk w g u cs) : g ≠ b := by
  rintro rfl
  unfold Blk at hb
  unfold MapC at h
  rw [h] at hb
  cases hb
theorem MapC.cell_ne {b : Nat} {m : List (α × Int)} {p : Addr} {u : Value} (h : MapC enc w b m) (hp : w.cell? p = some u) : p.block ≠ b := by
  rintro rfl
  unfold MapC at h
  unfold World.cell? at hp
  simp [h] at hp
theorem RowC.onlyC {b g o : Nat} {m : List (α × Int)} {cs : List Value} {w' : World} (h : RowC w g o cs) (hm : MapC enc w b m) (ho : Only [b] w w') : RowC w' g o cs := fun j u hj => by
  have h1 := h j u hj
  rw [ho.cell (by simpa using hm.cell_ne h1)]
  exact h1
theorem Blk.onlyC {b g : Nat} {u : TypeId} {cs : Array Value} {m : List (α × Int)} {w' : World} (h : Blk w g u cs) (hm : MapC enc w b m) (ho : Only [b] w w') : Blk w' g u cs := ho.blk h (by simpa using hm.blk_ne h)
theorem RowIn.onlyC {β : Type} {enc' : β → List Value} {k B A c} {l : List β} {b : Nat} {m : List (α × Int)} {w' : World} (h : RowIn enc' k w B A c l) (hm : MapC enc w b m) (ho : Only [b] w w') : RowIn enc' k w' B A c l :=
  ⟨h.le, h.max, fun hn => let ⟨g, o, e, hg, hc⟩ := h.cells hn; ⟨g, o, e, hg, RowC.onlyC hc hm ho⟩⟩
theorem only_setBlockC {b : Nat} (o : Obj) (w : World) : Only [b] w (ChangeMaps.setBlock w b o) :=
  ⟨rfl, rfl, rfl, by simp [ChangeMaps.setBlock], fun i hi => by
    have : b ≠ i := fun e => hi (by simp [e])
    simp [ChangeMaps.setBlock, Array.getElem?_setIfInBounds_ne this]⟩
theorem MapC.set_ {b : Nat} {m m' : List (α × Int)} (h : MapC enc w b m) (es : Array MapEntry) (n : Nat) (he : es.toList = entC enc m' 0) (hn : n = m'.length) : MapC enc (ChangeMaps.setBlock w b (.map es n)) b m' := by
  have hlt := h.lt
  have : es = (entC enc m' 0).toArray := Array.ext' (by simpa using he)
  subst this hn
  simp [MapC, ChangeMaps.setBlock, hlt]
theorem MapC.len {b : Nat} {m : List (α × Int)} (h : MapC enc w b m) (ht : P.underlying t = some (.map tk te)) (ty : TypeId) : (Builtin.len_ #[t] ty #[.map (some b)]).run P w = .ok (.int .i64 (m.length : Int)) w := by
  simp [Builtin.len_, run_underlying ht, MapKept.run_getObj_map h, goInt, Result.andThen, entC_len]
theorem MapC.estore {b : Nat} {m : List (α × Int)} (h : MapC enc w b m) (x : α) (j : Nat) (n v : Int) (hj : m[j]? = some (x, n)) :
    ∃ w', (Instr.entryStore t (.map (some b)) (.int .i64 (j : Int)) (.int .i64 v)).run P w = .ok () w' ∧ Only [b] w w' ∧ MapC enc w' b (m.set j (x, v)) := by
  have hlt : j < m.length := (List.getElem?_eq_some_iff.1 hj).1
  have h3 : (entC enc m 0)[j]? = some ⟨.agg (enc x).toArray, .int .i64 n, 0 + j⟩ := entC_get m 0 j (x, n) hj
  have hf := entC_born (enc := enc) m 0 j hlt
  rw [Nat.zero_add] at hf
  have hidx : (entC enc m 0).toArray.findIdx? (fun e => (e.born : Int) == (j : Int)) = some j := by rw [findIdx_arrC]; exact hf
  refine ⟨ChangeMaps.setBlock w b (.map ((entC enc m 0).toArray.modify j fun e => { e with val := .int .i64 v }) m.length), ?_, only_setBlockC _ w, h.set_ _ _ ?_ (by simp)⟩
  · simp [Instr.entryStore, MapKept.run_getObj_map h, asInt, asIntOf, hidx, MapKept.run_setObj_map _ h, Result.andThen, ChangeMaps.setBlock]
  · rw [Array.toList_modify, ChangeMaps.modify_eq_set _ _ _ _ h3, entC_set m 0 j (x, v) hlt]
variable {ops : Array Oper} {o : Oper} {a : Act} {Q : Exit → Act → World → Prop} {K' : Act → World → Prop} {E : Prop}
theorem step_estoreC (hgd : o.guard = none) (m x v : Operand) (hop : o.op = .entryStore t m x v) (hd : o.dst = none) {b : Nat} {s : List (α × Int)} (h : MapC enc w b s) (hm : a.eval m = .map (some b)) (k : α) (j : Nat) (n z : Int)
    (hx : a.eval x = .int .i64 (j : Int)) (hv : a.eval v = .int .i64 z) (hj : s[j]? = some (k, n))
    (hK : ∀ w', Only [b] w w' → MapC enc w' b (s.set j (k, z)) → K' a w') : if Region.wanted o (yielded ops a.tmps) = true then Oper.wp P o a w K' Q else E := by
  have hw : Region.wanted o (yielded ops a.tmps) = true := by simp [Region.wanted, hgd]
  rw [if_pos hw]
  obtain ⟨w', hrun, r1, r2⟩ := h.estore (P := P) (t := t) k j n z hj
  unfold Oper.wp execOp
  simp only [hop, hm, hx, hv, Sem.run_bind, hrun, Result.andThen_ok, Sem.run_pure]
  rw [Oper.upon_skip, hd]
  exact hK _ r1 r2
end
section
variable {P : Program} {w : World} {t tk te : TypeId} {α : Type} [DecidableEq α] {enc : α → List Value}
theorem KeyTy.stays (K : KeyTy P tk enc) (x : α) : (Instr.keyThatStays (.agg (enc x).toArray) (.agg (enc x).toArray)).run P w = .ok (.agg (enc x).toArray) w := by
  unfold Instr.keyThatStays
  have h : Instr.sameBits 10000 (.agg (enc x).toArray) (.agg (enc x).toArray) = true := by
    rw [show 10000 = 9999 + 1 from rfl, Instr.sameBits]
    simp only [beq_self_eq_true, Bool.true_and]
    exact sameBits_cells 9999 (enc x) (K.bits x)
  rw [if_pos h]
  rfl
/-- where x stands, and its count -/
def atC (x : α) : List (α × Int) → Nat → Option (Nat × Int)
  | [], _ => none
  | p :: m, i => if x = p.1 then some (i, p.2) else atC x m (i + 1)
theorem atC_some (x : α) : ∀ (m : List (α × Int)) (i j : Nat) (n : Int), atC x m i = some (j, n) → i ≤ j ∧ m[j - i]? = some (x, n)
  | [], _, _, _, h => by simp [atC] at h
  | p :: m, i, j, n, h => by
    unfold atC at h
    split at h
    · rename_i e
      simp at h
      obtain ⟨rfl, rfl⟩ := h
      exact ⟨Nat.le_refl _, by rw [Nat.sub_self, e]; rfl⟩
    · obtain ⟨h1, h2⟩ := atC_some x m (i + 1) j n h
      refine ⟨by omega, ?_⟩
      rw [show j - i = (j - (i + 1)) + 1 by omega]
      simpa using h2
theorem atC_none (x : α) : ∀ (m : List (α × Int)) (i : Nat), atC x m i = none ↔ x ∉ m.map (·.1)
  | [], _ => by simp [atC]
  | p :: m, i => by
    unfold atC
    split
    · rename_i e; simp [e]
    · rename_i e; rw [atC_none x m (i + 1)]; simp [e]
theorem atC_append (x : α) (n : Int) : ∀ (m : List (α × Int)) (i : Nat), atC x m i = none → atC x (m ++ [(x, n)]) i = some (i + m.length, n)
  | [], i, _ => by simp [atC]
  | p :: m, i, h => by
    unfold atC at h
    split at h
    · cases h
    · rename_i e
      have := atC_append x n m (i + 1) h
      simp only [List.cons_append, atC, if_neg e, this, List.length_cons]
      congr 2; omega
/-- the count of x -/
def cntC (x : α) (m : List (α × Int)) : Int := ((atC x m 0).map (·.2)).getD 0
/-- what a look for the entry to count up leaves -/
def wthC (x : α) (m : List (α × Int)) : List (α × Int) := if x ∈ m.map (·.1) then m else m ++ [(x, 0)]
def idxC (x : α) (m : List (α × Int)) : Nat := ((atC x m 0).map (·.1)).getD m.length
theorem wthC_get (x : α) (m : List (α × Int)) : (wthC x m)[idxC x m]? = some (x, cntC x m) := by
  unfold wthC idxC cntC
  cases h : atC x m 0 with
  | none =>
    rw [if_neg ((atC_none x m 0).1 h)]
    simp
  | some p =>
    obtain ⟨j, n⟩ := p
    rw [if_pos (Classical.byContradiction fun hn => by rw [(atC_none x m 0).2 hn] at h; cases h)]
    simpa using (atC_some x m 0 j n h).2
theorem wthC_cnt (x : α) (m : List (α × Int)) : cntC x (wthC x m) = cntC x m := by
  unfold wthC
  split
  · rfl
  · rename_i h
    unfold cntC
    rw [(atC_none x m 0).2 h, atC_append x 0 m 0 ((atC_none x m 0).2 h)]
    rfl
theorem wthC_lt (x : α) (m : List (α × Int)) : idxC x m < (wthC x m).length := (List.getElem?_eq_some_iff.1 (wthC_get x m)).1
theorem findAskC (K : KeyTy P tk enc) (x : α) : ∀ (m : List (α × Int)) (i i0 : Nat), (Instr.findAsking tk (.agg (enc x).toArray) (entC enc m i0) i).run P w = .ok ((atC x m i).map fun q => (q.1, Value.int .i64 q.2)) w
  | [], i, i0 => by simp [entC, Instr.findAsking, atC]
  | p :: m, i, i0 => by
    have h1 := K.ask x p.1 w
    have ih := findAskC K x m (i + 1) (i0 + 1)
    by_cases h : x = p.1
    · rw [decide_eq_true h] at h1
      simp only [entC, Instr.findAsking, Sem.run_bind, h1, Result.andThen_ok, atC, if_pos h, Option.map_some]
      rfl
    · rw [decide_eq_false h] at h1
      simp only [entC, Instr.findAsking, Sem.run_bind, h1, Result.andThen_ok, atC, if_neg h]
      simpa using ih
theorem findKeyC (K : KeyTy P tk enc) (x : α) (m : List (α × Int)) : (Instr.findKey tk (.agg (enc x).toArray) (entC enc m 0)).run P w = .ok ((atC x m 0).map fun q => (q.1, Value.int .i64 q.2)) w := by
  obtain ⟨d, hd⟩ := K.desc
  cases m with
  | nil => simp [Instr.findKey, run_underlying hd, entC, Instr.findNow, atC]
  | cons p m =>
    have h1 : Instr.findNow d (.agg (enc x).toArray) (entC enc (p :: m) 0) 0 = none := by
      have h2 : Instr.sameNow d (.agg (enc x).toArray) (.agg (enc p.1).toArray) = none := by cases d <;> rfl
      simp only [entC, Instr.findNow, h2]
    have h3 := findAskC (w := w) K x (p :: m) 0 0
    simp only [Instr.findKey, Sem.run_bind, run_underlying hd, Result.andThen_ok, h1]
    exact h3
theorem MapC.look {b : Nat} {m : List (α × Int)} (h : MapC enc w b m) (K : KeyTy P tk enc) (ht : P.underlying t = some (.map tk te)) (hz : ∀ w, (zeroValue te).run P w = .ok (.int .i64 0) w) (x : α) :
    (Instr.lookup t (.map (some b)) (.agg (enc x).toArray) false).run P w = .ok (.int .i64 (cntC x m)) w := by
  have h1 := findKeyC (w := w) K x m
  unfold cntC
  cases hat : atC x m 0 with
  | none =>
    rw [hat] at h1
    simp [Instr.lookup, run_underlying ht, MapKept.run_getObj_map h, K.check, h1, hz, Result.andThen]
  | some p =>
    rw [hat] at h1
    simp [Instr.lookup, run_underlying ht, MapKept.run_getObj_map h, K.check, h1, Result.andThen]
theorem MapC.entry {b : Nat} {m : List (α × Int)} (h : MapC enc w b m) (K : KeyTy P tk enc) (ht : P.underlying t = some (.map tk te)) (hz : ∀ w, (zeroValue te).run P w = .ok (.int .i64 0) w) (x : α) :
    ∃ w', (Instr.mapEntry t (.map (some b)) (.agg (enc x).toArray)).run P w = .ok (.tuple #[.int .i64 (cntC x m), .int .i64 (idxC x m : Int)]) w' ∧ Only [b] w w' ∧ MapC enc w' b (wthC x m) := by
  have h1 := findKeyC (w := w) K x m
  cases hat : atC x m 0 with
  | none =>
    rw [hat] at h1
    have hw : wthC x m = m ++ [(x, 0)] := by unfold wthC; rw [if_neg ((atC_none x m 0).1 hat)]
    have hc : cntC x m = 0 := by unfold cntC; rw [hat]; rfl
    have hi : idxC x m = m.length := by unfold idxC; rw [hat]; rfl
    rw [hw, hc, hi]
    refine ⟨ChangeMaps.setBlock w b (.map ((entC enc m 0).toArray.push ⟨.agg (enc x).toArray, .int .i64 0, m.length⟩) (m.length + 1)), ?_, only_setBlockC _ w, h.set_ _ _ ?_ (by simp)⟩
    · simp [Instr.mapEntry, run_underlying ht, MapKept.run_getObj_map h, K.check, h1, hz, MapKept.run_setObj_map _ h, goInt, Result.andThen, ChangeMaps.setBlock]
    · rw [Array.toList_push, entC_append]
      simp [entC]
  | some p =>
    obtain ⟨j, n⟩ := p
    rw [hat] at h1
    obtain ⟨_, h2⟩ := atC_some x m 0 j n hat
    rw [Nat.sub_zero] at h2
    have h3 : (entC enc m 0)[j]? = some ⟨.agg (enc x).toArray, .int .i64 n, 0 + j⟩ := entC_get m 0 j (x, n) h2
    have hw : wthC x m = m := by unfold wthC; rw [if_pos (List.mem_map.2 ⟨(x, n), List.mem_of_getElem? h2, rfl⟩)]
    have hc : cntC x m = n := by unfold cntC; rw [hat]; rfl
    have hi : idxC x m = j := by unfold idxC; rw [hat]; rfl
    have hmod : ((entC enc m 0).modify j fun e => { e with key := .agg (enc x).toArray }) = entC enc m 0 := by
      rw [ChangeMaps.modify_eq_set _ _ _ _ h3]
      exact set_selfC _ _ _ h3
    rw [hw, hc, hi]
    refine ⟨ChangeMaps.setBlock w b (.map (entC enc m 0).toArray m.length), ?_, only_setBlockC _ w, h.set_ _ _ (by simp) rfl⟩
    simp [Instr.mapEntry, run_underlying ht, MapKept.run_getObj_map h, K.check, h1, h3, K.stays, hmod, MapKept.run_setObj_map _ h, goInt, Result.andThen, ChangeMaps.setBlock]
variable {ops : Array Oper} {rest : List Oper} {o : Oper} {a : Act} {Q : Exit → Act → World → Prop} {K' : Act → World → Prop} {E : Prop}
theorem wpList_lookC (hw : Region.wanted o (yielded ops a.tmps) = true) (m x : Operand) (hop : o.op = .lookup t m x false) {b : Nat} {s : List (α × Int)} (h : MapC enc w b s)
    (K : KeyTy P tk enc) (ht : P.underlying t = some (.map tk te)) (hz : ∀ w, (zeroValue te).run P w = .ok (.int .i64 0) w) (hm : a.eval m = .map (some b)) (k : α) (hx : a.eval x = .agg (enc k).toArray) (r : Int) (hr : cntC k s = r)
    (hK : wpList P ops Q rest (a.put o.dst (.int .i64 r)) w) : wpList P ops Q (o :: rest) a w :=
  wpList_step fun K2 hK' => by
    rw [if_pos hw]
    have h' := hK' _ _ hK
    have hrun : (execOp a.eval o).run P w = .ok (.value (.int .i64 r)) w := by
      unfold execOp
      simp [hop, hm, hx, h.look K ht hz k, Result.andThen, hr]
    unfold Oper.wp
    rw [hrun, Oper.upon_value]
    exact h'
theorem step_lookC (hw : Region.wanted o (yielded ops a.tmps) = true) (m x : Operand) (hop : o.op = .lookup t m x false) {b : Nat} {s : List (α × Int)} (h : MapC enc w b s)
    (K : KeyTy P tk enc) (ht : P.underlying t = some (.map tk te)) (hz : ∀ w, (zeroValue te).run P w = .ok (.int .i64 0) w) (hm : a.eval m = .map (some b)) (k : α) (hx : a.eval x = .agg (enc k).toArray) (r : Int) (hr : cntC k s = r)
    (hK : K' (a.put o.dst (.int .i64 r)) w) : if Region.wanted o (yielded ops a.tmps) = true then Oper.wp P o a w K' Q else E := by
  rw [if_pos hw]
  have hrun : (execOp a.eval o).run P w = .ok (.value (.int .i64 r)) w := by
    unfold execOp
    simp [hop, hm, hx, h.look K ht hz k, Result.andThen, hr]
  unfold Oper.wp
  rw [hrun, Oper.upon_value]
  exact hK
theorem step_entryC (hgd : o.guard = none) (m x : Operand) (hop : o.op = .mapEntry t m x) {b : Nat} {s : List (α × Int)} (h : MapC enc w b s)
    (K : KeyTy P tk enc) (ht : P.underlying t = some (.map tk te)) (hz : ∀ w, (zeroValue te).run P w = .ok (.int .i64 0) w) (hm : a.eval m = .map (some b)) (k : α) (hx : a.eval x = .agg (enc k).toArray)
    (hK : ∀ w', Only [b] w w' → MapC enc w' b (wthC k s) → K' (a.put o.dst (.tuple #[.int .i64 (cntC k s), .int .i64 (idxC k s : Int)])) w') : if Region.wanted o (yielded ops a.tmps) = true then Oper.wp P o a w K' Q else E := by
  have hw : Region.wanted o (yielded ops a.tmps) = true := by simp [Region.wanted, hgd]
  rw [if_pos hw]
  obtain ⟨w', hrun, r1, r2⟩ := h.entry K ht hz k
  have hrun2 : (execOp a.eval o).run P w = .ok (.value (.tuple #[.int .i64 (cntC k s), .int .i64 (idxC k s : Int)])) w' := by
    unfold execOp
    simp [hop, hm, hx, hrun, Result.andThen]
  unfold Oper.wp
  rw [hrun2, Oper.upon_value]
  exact hK _ r1 r2
/-- how often each one is there: what the loop has -/
def insC (s : List α) (x : α) : List α := if x ∈ s then s else s ++ [x]
structure CntC (m : List (α × Int)) (s : List α) (j : Nat) : Prop where
  keys : m.map (·.1) = s
  pos : ∀ p ∈ m, 1 ≤ p.2 ∧ p.2 ≤ j
theorem cntC_le {m : List (α × Int)} {s : List α} {j : Nat} (h : CntC m s j) (x : α) : 0 ≤ cntC x m ∧ cntC x m ≤ j ∧ (0 < cntC x m ↔ x ∈ s) := by
  unfold cntC
  cases hat : atC x m 0 with
  | none =>
    have := (atC_none x m 0).1 hat
    rw [h.keys] at this
    simp [this]
  | some p =>
    obtain ⟨i, n⟩ := p
    obtain ⟨_, h2⟩ := atC_some x m 0 i n hat
    have hm := List.mem_of_getElem? h2
    have := h.pos _ hm
    have hx : x ∈ s := by rw [← h.keys]; exact List.mem_map.2 ⟨_, hm, rfl⟩
    simp at this
    simp [hx]
    omega
theorem CntC.up {m : List (α × Int)} {s : List α} {j : Nat} (h : CntC m s j) (x : α) : CntC ((wthC x m).set (idxC x m) (x, cntC x m + 1)) (insC s x) (j + 1) := by
  have hg := wthC_get x m
  have hl := wthC_lt x m
  have hc := cntC_le h x
  constructor
  · rw [List.map_set]
    have e1 : ((wthC x m).map (·.1)).set (idxC x m) x = (wthC x m).map (·.1) := set_selfC _ _ _ (by rw [List.getElem?_map, hg]; rfl)
    rw [e1]
    unfold wthC insC
    rw [h.keys]
    split
    · exact h.keys
    · rw [List.map_append, h.keys]; rfl
  · intro p hp
    have hold : ∀ q ∈ m, 1 ≤ q.2 ∧ q.2 ≤ ((j + 1 : Nat) : Int) := fun q hq => by have := h.pos q hq; omega
    obtain ⟨i, hi⟩ := List.getElem?_of_mem hp
    rw [List.getElem?_set] at hi
    split at hi
    · try rw [if_pos (by omega)] at hi
      cases hi
      constructor
      · show 1 ≤ cntC x m + 1; omega
      · show cntC x m + 1 ≤ ((j + 1 : Nat) : Int); omega
    · rename_i hne
      unfold wthC at hi
      split at hi
      · exact hold p (List.mem_of_getElem? hi)
      · rename_i hx
        rw [List.getElem?_append] at hi
        split at hi
        · exact hold p (List.mem_of_getElem? hi)
        · rename_i hlen
          have hix : idxC x m = m.length := by unfold idxC; rw [(atC_none x m 0).2 hx]; rfl
          have : i - m.length = 0 := by
            rcases Nat.eq_zero_or_pos (i - m.length) with h0 | h0
            · exact h0
            · rw [List.getElem?_eq_none (by simp; omega)] at hi
              cases hi
          omega
theorem insC_mem (s : List α) (x y : α) : y ∈ insC s x ↔ y ∈ s ∨ y = x := by
  unfold insC
  split
  · rename_i h; exact ⟨.inl, fun h1 => h1.elim id fun e => e ▸ h⟩
  · simp
theorem foldC_mem : ∀ (l s : List α) (y : α), y ∈ l.foldl insC s ↔ y ∈ s ∨ y ∈ l
  | [], s, y => by simp
  | x :: l, s, y => by rw [List.foldl_cons, foldC_mem l, insC_mem]; simp [or_assoc]
theorem foldC_le : ∀ l s : List α, (l.foldl insC s).length ≤ s.length + l.length
  | [], s => by simp
  | x :: l, s => by
    rw [List.foldl_cons]
    refine Nat.le_trans (foldC_le l _) ?_
    unfold insC
    split <;> simp <;> omega
theorem foldC_len : ∀ l s : List α, (l.foldl insC s).length = s.length + l.length ↔ (∀ x ∈ l, x ∉ s) ∧ l.Nodup
  | [], s => by simp
  | x :: l, s => by
    rw [List.foldl_cons]
    by_cases h : x ∈ s
    · have e : insC s x = s := by unfold insC; rw [if_pos h]
      rw [e]
      refine ⟨fun h1 => ?_, fun h1 => absurd h (h1.1 x (by simp))⟩
      have := foldC_le l s
      rw [List.length_cons] at h1
      omega
    · have e : insC s x = s ++ [x] := by unfold insC; rw [if_neg h]
      rw [e, show s.length + (x :: l).length = (s ++ [x]).length + l.length by simp; omega, foldC_len l (s ++ [x]), List.nodup_cons]
      constructor
      · rintro ⟨h1, h2⟩
        refine ⟨fun y hy => ?_, ?_, h2⟩
        · rcases List.mem_cons.1 hy with rfl | hy
          · exact h
          · exact fun hs => h1 y hy (by simp [hs])
        · exact fun hx => h1 x hx (by simp)
      · rintro ⟨h1, h2, h3⟩
        refine ⟨fun y hy hs => ?_, h3⟩
        rcases List.mem_append.1 hs with hs | hs
        · exact h1 y (by simp [hy]) hs
        · simp at hs; exact h2 (hs ▸ hy)
theorem foldC_nodup (l : List α) : (l.foldl insC []).length = l.length ↔ l.Nodup := by
  have := foldC_len l []
  simpa using this
theorem foldC_take (l : List α) (j : Nat) (hj : j < l.length) : (l.take (j + 1)).foldl insC [] = insC ((l.take j).foldl insC []) l[j] := by
  rw [List.take_succ_eq_append_getElem hj, List.foldl_append]
  rfl
end
end Go.Proofs.Yticphjnabecanaa
