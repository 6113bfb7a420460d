/- A map of keys to bools which the call made: it tells a set. Looked up, written. Over any program. -/
import Derived.Test.YticphjnabecanaaGenA
import Derived.Maps.Own
namespace Go.Proofs.Yticphjnabecanaa
open Go.RowKit Go.MapKept
section
variable {P : Program} {w : World} {t tk te eb : TypeId}
theorem sameBits_bytes (n : Nat) : ∀ l : List UInt8, ((bytesA l).toList.zip (bytesA l).toList).all (fun (x, y) => Instr.sameBits n x y) = true
  | [] => by simp [bytesA]
  | b :: l => by
    have h := sameBits_bytes n l
    simp only [bytesA] at h ⊢
    simp only [List.map_cons, List.zip_cons_cons, List.all_cons, h, Bool.and_true]
    cases n <;> simp [Instr.sameBits]
theorem run_keyStays (l : List UInt8) : (Instr.keyThatStays (.agg (bytesA l)) (.agg (bytesA l))).run P w = .ok (.agg (bytesA l)) w := by
  unfold Instr.keyThatStays
  have h : Instr.sameBits 10000 (.agg (bytesA l)) (.agg (bytesA l)) = true := by
    rw [show 10000 = 9999 + 1 from rfl, Instr.sameBits]
    simp only [beq_self_eq_true, Bool.true_and]
    exact sameBits_bytes 9999 l
  rw [if_pos h]
  rfl
theorem run_checkKey_bytes (hk : P.underlying tk = some (.array 32 eb)) (he : P.underlying eb = some (.int .u8)) (hc : P.cellsOf eb = 1) (em : Bool) (x : K32) :
    (Instr.checkKey em 10000 tk (.agg (bytesA x.1))).run P w = .ok () w := by
  obtain ⟨i, hi⟩ := info_of_underlying he
  have hp : P.plainKey eb = true := by simp [Program.plainKey, he]
  rw [show 10000 = 9999 + 1 from rfl, Instr.checkKey]
  simp only [Sem.run_bind, run_underlying hk, Result.andThen_ok]
  simp only [Std.Legacy.Range.forIn_eq_forIn_range', Std.Legacy.Range.size, Nat.sub_zero, Nat.add_one_sub_one, Nat.div_one]
  have each : ∀ j ∈ List.range' 0 32, j < 32 := by
    intro j hj
    rw [← List.range_eq_range'] at hj
    exact List.mem_range.1 hj
  generalize List.range' 0 32 = is at each
  induction is with
  | nil => simp
  | cons j is ih =>
    have hj : j < x.1.length := by rw [x.2]; exact each j (by simp)
    have p1 := run_part_plain (P := P) w hp (xs := bytesA x.1) (off := j * 1) (v := .int .u8 (x.1[j]'hj).toNat) (by rw [Nat.mul_one]; exact bytesA_get x.1 j hj)
    have p2 : (Instr.checkKey em 9999 eb (.int .u8 (x.1[j]'hj).toNat)).run P w = .ok () w := by
      rw [show 9999 = 9998 + 1 from rfl, Instr.checkKey]
      simp [run_underlying he]
    simp only [List.forIn_cons, Sem.run_bind, run_sizeOf w hi, hc, Result.andThen_ok, p1, p2, Sem.run_pure]
    exact ih (fun y hy => each y (by simp [hy]))
theorem run_findAsk (hk : P.underlying tk = some (.array 32 eb)) (he : P.underlying eb = some (.int .u8)) (hc : P.cellsOf eb = 1) (x : K32) : ∀ (es : List MapEntry) (i : Nat), (∀ e ∈ es, ∃ y : K32, e.key = .agg (bytesA y.1)) →
    ((Instr.findAsking tk (.agg (bytesA x.1)) es i).run P w = .ok none w ∧ ∀ e ∈ es, e.key ≠ .agg (bytesA x.1)) ∨
    ∃ j e, (Instr.findAsking tk (.agg (bytesA x.1)) es i).run P w = .ok (some (i + j, e.val)) w ∧ es[j]? = some e ∧ e.key = .agg (bytesA x.1)
  | [], i, _ => Or.inl ⟨by simp [Instr.findAsking], by simp⟩
  | e :: es, i, h => by
    obtain ⟨y, hy⟩ := h e (by simp)
    have h1 : (Op.equal tk (.agg (bytesA x.1)) e.key).run P w = .ok (decide (x.1 = y.1)) w := by rw [hy]; exact run_eq_bytes w hk he hc x.1 y.1 x.2 y.2
    by_cases hxy : x.1 = y.1
    · refine Or.inr ⟨0, e, ?_, rfl, by rw [hy, hxy]⟩
      simp only [Instr.findAsking, Sem.run_bind, h1, Result.andThen_ok, decide_eq_true hxy, if_true, Sem.run_pure, Nat.add_zero]
    · have h2 : (Instr.findAsking tk (.agg (bytesA x.1)) (e :: es) i).run P w = (Instr.findAsking tk (.agg (bytesA x.1)) es (i + 1)).run P w := by
        simp only [Instr.findAsking, Sem.run_bind, h1, Result.andThen_ok, decide_eq_false hxy, Bool.false_eq_true, if_false]
      rw [h2]
      rcases run_findAsk hk he hc x es (i + 1) (fun e' he' => h e' (by simp [he'])) with ⟨h3, h4⟩ | ⟨j, e', h3, h4, h5⟩
      · refine Or.inl ⟨h3, fun e' he' => ?_⟩
        rcases List.mem_cons.1 he' with rfl | he'
        · rw [hy]
          intro hq
          injection hq with hq
          exact hxy (bytesA_inj hq).symm
        · exact h4 e' he'
      · exact Or.inr ⟨j + 1, e', by rw [h3, show i + 1 + j = i + (j + 1) by omega], by simpa using h4, h5⟩
theorem run_findKey_bytes (hk : P.underlying tk = some (.array 32 eb)) (he : P.underlying eb = some (.int .u8)) (hc : P.cellsOf eb = 1) (x : K32) (es : List MapEntry) (h : ∀ e ∈ es, ∃ y : K32, e.key = .agg (bytesA y.1)) :
    ((Instr.findKey tk (.agg (bytesA x.1)) es).run P w = .ok none w ∧ ∀ e ∈ es, e.key ≠ .agg (bytesA x.1)) ∨
    ∃ j e, (Instr.findKey tk (.agg (bytesA x.1)) es).run P w = .ok (some (j, e.val)) w ∧ es[j]? = some e ∧ e.key = .agg (bytesA x.1) := by
  have h0 : (Instr.findKey tk (.agg (bytesA x.1)) es).run P w = (Instr.findAsking tk (.agg (bytesA x.1)) es).run P w := by
    cases es with
    | nil => simp [Instr.findKey, run_underlying hk, Instr.findNow, Instr.findAsking]
    | cons e es => simp [Instr.findKey, run_underlying hk, Instr.findNow, Instr.sameNow]
  rw [h0]
  rcases run_findAsk (w := w) hk he hc x es 0 h with h1 | ⟨j, e, h1, h2⟩
  · exact Or.inl h1
  · exact Or.inr ⟨j, e, by rw [h1, Nat.zero_add], h2⟩
/-- block b is a map that has 'true' at the keys of s alone -/
def MapB (w : World) (b : Nat) (s : List K32) : Prop :=
  ∃ es clock, w.heap[b]? = some (.map es clock) ∧ (es.toList.map (·.key)).Nodup ∧ (∀ e ∈ es.toList, ∃ x : K32, e.key = .agg (bytesA x.1) ∧ e.val = .bool (decide (x ∈ s))) ∧ ∀ x ∈ s, ∃ e ∈ es.toList, e.key = .agg (bytesA (x : K32).1)
theorem MapB.new (w : World) : MapB (w.alloc (.map #[] 0)) w.heap.size [] := ⟨#[], 0, heap_alloc_new w _, by simp, by simp, by simp⟩
theorem MapB.lt {b : Nat} {s : List K32} (h : MapB w b s) : b < w.heap.size := by
  obtain ⟨es, clock, hb, _⟩ := h
  exact (Array.getElem?_eq_some_iff.1 hb).1
theorem MapB.below {b B : Nat} {s : List K32} {w' : World} (h : MapB w b s) (hb : Below B w w') (hlt : b < B) : MapB w' b s := by
  obtain ⟨es, clock, h1, h2⟩ := h
  exact ⟨es, clock, (hb.block b hlt).trans h1, h2⟩
theorem MapB.blk_ne {b g : Nat} {s : List K32} {t : TypeId} {cs : Array Value} (h : MapB w b s) (hb : Blk w g t cs) : g ≠ b := by
  obtain ⟨es, clock, h1, _⟩ := h
  rintro rfl
  unfold Blk at hb
  rw [h1] at hb
  cases hb
theorem MapB.cell_ne {b : Nat} {s : List K32} {p : Addr} {u : Value} (h : MapB w b s) (hp : w.cell? p = some u) : p.block ≠ b := by
  obtain ⟨es, clock, h1, _⟩ := h
  rintro rfl
  unfold World.cell? at hp
  simp [h1] at hp
theorem RowIn.onlyMap {α : Type} {enc : α → List Value} {k B A c} {l : List α} {b : Nat} {s : List K32} {w' : World} (h : RowIn enc k w B A c l) (hm : MapB w b s) (ho : Only [b] w w') : RowIn enc k w' B A c l :=
  ⟨h.le, h.max, fun hn => let ⟨g, o, e, hg, hc⟩ := h.cells hn; ⟨g, o, e, hg, fun j u hj => by
    have h1 := hc j u hj
    rw [ho.cell (by simpa using hm.cell_ne h1)]
    exact h1⟩⟩
theorem MapB.look {b : Nat} {s : List K32} (h : MapB w b s) (ht : P.underlying t = some (.map tk te)) (hk : P.underlying tk = some (.array 32 eb)) (he : P.underlying eb = some (.int .u8)) (hc : P.cellsOf eb = 1)
    (hz : ∀ w, (zeroValue te).run P w = .ok (.bool false) w) (x : K32) : (Instr.lookup t (.map (some b)) (.agg (bytesA x.1)) false).run P w = .ok (.bool (decide (x ∈ s))) w := by
  obtain ⟨es, clock, hb, h1, h2, h3⟩ := h
  rcases run_findKey_bytes (P := P) (w := w) hk he hc x es.toList (fun e he' => let ⟨y, hy, _⟩ := h2 e he'; ⟨y, hy⟩) with ⟨r1, r2⟩ | ⟨j, e, r1, r2, r3⟩
  · have hx : x ∉ s := fun hx => by
      obtain ⟨e, m1, m2⟩ := h3 x hx
      exact r2 e m1 m2
    simp [Instr.lookup, run_underlying ht, MapKept.run_getObj_map hb, run_checkKey_bytes hk he hc _ x, r1, hz, Result.andThen, hx]
  · obtain ⟨y, y1, y2⟩ := h2 e (List.mem_of_getElem? r2)
    rw [r3] at y1
    injection y1 with y1
    obtain rfl : x = y := Subtype.ext (bytesA_inj y1)
    simp [Instr.lookup, run_underlying ht, MapKept.run_getObj_map hb, run_checkKey_bytes hk he hc _ x, r1, y2, Result.andThen]
theorem only_setBlock {b : Nat} (o : Obj) (w : World) : Only [b] w (ChangeMaps.setBlock w b o) :=
  ⟨rfl, rfl, rfl, by simp [ChangeMaps.setBlock], fun i hi => by
    have : b ≠ i := fun e => hi (by simp [e])
    simp [ChangeMaps.setBlock, Array.getElem?_setIfInBounds_ne this]⟩
theorem MapB.update {b : Nat} {s s' : List K32} (h : MapB w b s) (ht : P.underlying t = some (.map tk te)) (hk : P.underlying tk = some (.array 32 eb)) (he : P.underlying eb = some (.int .u8)) (hc : P.cellsOf eb = 1)
    (x : K32) (v : Bool) (hv : decide (x ∈ s') = v) (hs : ∀ y, y ≠ x → (y ∈ s' ↔ y ∈ s)) :
    ∃ w', (Instr.mapUpdate t (.map (some b)) (.agg (bytesA x.1)) (.bool v)).run P w = .ok () w' ∧ Only [b] w w' ∧ MapB w' b s' := by
  obtain ⟨es, clock, hb, h1, h2, h3⟩ := h
  have hlt : b < w.heap.size := (Array.getElem?_eq_some_iff.1 hb).1
  have hset : ∀ o, (ChangeMaps.setBlock w b o).heap[b]? = some o := fun o => by simp [ChangeMaps.setBlock, hlt]
  rcases run_findKey_bytes (P := P) (w := w) hk he hc x es.toList (fun e he' => let ⟨y, hy, _⟩ := h2 e he'; ⟨y, hy⟩) with ⟨r1, r2⟩ | ⟨j, e, r1, r2, r3⟩
  · refine ⟨ChangeMaps.setBlock w b (.map (es.push ⟨.agg (bytesA x.1), .bool v, clock⟩) (clock + 1)), ?_, only_setBlock _ w, ⟨_, _, hset _, ?_, ?_, ?_⟩⟩
    · simp [Instr.mapUpdate, run_underlying ht, MapKept.run_getObj_map hb, run_checkKey_bytes hk he hc _ x, r1, MapKept.run_setObj_map _ hb, Result.andThen, ChangeMaps.setBlock]
    · rw [Array.toList_push, List.map_append, List.nodup_append]
      refine ⟨h1, by simp, ?_⟩
      intro a ha b' hb'
      obtain ⟨e, m1, rfl⟩ := List.mem_map.1 ha
      simp only [List.map_cons, List.map_nil, List.mem_singleton] at hb'
      rw [hb']
      exact r2 e m1
    · intro e he'
      rw [Array.toList_push, List.mem_append, List.mem_singleton] at he'
      rcases he' with he' | rfl
      · obtain ⟨y, y1, y2⟩ := h2 e he'
        have hyx : y ≠ x := fun q => r2 e he' (by rw [y1, q])
        exact ⟨y, y1, by rw [y2]; congr 1; exact decide_eq_decide.2 (hs y hyx).symm⟩
      · exact ⟨x, rfl, by rw [hv]⟩
    · intro y hy
      by_cases hyx : y = x
      · exact ⟨_, by rw [Array.toList_push]; exact List.mem_append_right _ (List.mem_singleton.2 rfl), by rw [hyx]⟩
      · obtain ⟨e, m1, m2⟩ := h3 y ((hs y hyx).1 hy)
        exact ⟨e, by rw [Array.toList_push]; exact List.mem_append_left _ m1, m2⟩
  · have hj : es[j]? = some e := by simpa using r2
    have hjl : j < es.toList.length := (List.getElem?_eq_some_iff.1 r2).1
    have hmap : (es.modify j (fun e' => { e' with key := .agg (bytesA x.1), val := .bool v })).toList = es.toList.set j { e with key := .agg (bytesA x.1), val := .bool v } := by
      rw [Array.toList_modify, ChangeMaps.modify_eq_set _ _ _ _ r2]
    refine ⟨ChangeMaps.setBlock w b (.map (es.modify j (fun e' => { e' with key := .agg (bytesA x.1), val := .bool v })) clock), ?_, only_setBlock _ w, ⟨_, _, hset _, ?_, ?_, ?_⟩⟩
    · simp [Instr.mapUpdate, run_underlying ht, MapKept.run_getObj_map hb, run_checkKey_bytes hk he hc _ x, r1, hj, r3, run_keyStays, MapKept.run_setObj_map _ hb, Result.andThen, ChangeMaps.setBlock]
    · rw [hmap, List.map_set]
      have e1 : (es.toList.map (·.key)).set j (.agg (bytesA x.1)) = es.toList.map (·.key) := by
        apply List.ext_getElem?
        intro i
        rw [List.getElem?_set]
        split
        · rename_i hij
          subst hij
          rw [List.length_map, if_pos hjl, List.getElem?_map, r2, Option.map_some, r3]
        · rfl
      rw [e1]
      exact h1
    · intro e' he'
      rw [hmap] at he'
      obtain ⟨i, hi⟩ := List.getElem?_of_mem he'
      rw [List.getElem?_set] at hi
      split at hi
      · rename_i hij
        try rw [if_pos hjl] at hi
        cases hi
        exact ⟨x, rfl, by rw [hv]⟩
      · rename_i hij
        obtain ⟨y, y1, y2⟩ := h2 e' (List.mem_of_getElem? hi)
        have hyx : y ≠ x := fun q => by
          have n1 : (es.toList.map (·.key))[i]? = some (.agg (bytesA x.1)) := by rw [List.getElem?_map, hi, Option.map_some, y1, q]
          have n2 : (es.toList.map (·.key))[j]? = some (.agg (bytesA x.1)) := by rw [List.getElem?_map, r2, Option.map_some, r3]
          obtain ⟨l1, g1⟩ := List.getElem?_eq_some_iff.1 n1
          obtain ⟨l2, g2⟩ := List.getElem?_eq_some_iff.1 n2
          have hp := List.pairwise_iff_getElem.1 h1
          rcases Nat.lt_trichotomy i j with hlt' | heq | hlt'
          · exact hp i j l1 l2 hlt' (g1.trans g2.symm)
          · exact hij heq.symm
          · exact hp j i l2 l1 hlt' (g2.trans g1.symm)
        exact ⟨y, y1, by rw [y2]; congr 1; exact decide_eq_decide.2 (hs y hyx).symm⟩
    · intro y hy
      rw [hmap]
      by_cases hyx : y = x
      · exact ⟨_, List.mem_of_getElem? (i := j) (by rw [List.getElem?_set, if_pos rfl, if_pos hjl]), by rw [hyx]⟩
      · obtain ⟨e', m1, m2⟩ := h3 y ((hs y hyx).1 hy)
        obtain ⟨i, hi⟩ := List.getElem?_of_mem m1
        have hij : j ≠ i := fun q => by
          rw [← q, r2] at hi
          cases hi
          rw [r3] at m2
          injection m2 with m2
          exact hyx (Subtype.ext (bytesA_inj m2)).symm
        exact ⟨e', List.mem_of_getElem? (i := i) (by rw [List.getElem?_set, if_neg hij]; exact hi), m2⟩
variable {ops : Array Oper} {rest : List Oper} {o : Oper} {a : Act} {Q : Exit → Act → World → Prop}
theorem wpList_lookB (hw : Region.wanted o (yielded ops a.tmps) = true) (m x : Operand) (hop : o.op = .lookup t m x false) {b : Nat} {s : List K32} (h : MapB w b s)
    (ht : P.underlying t = some (.map tk te)) (hk : P.underlying tk = some (.array 32 eb)) (he : P.underlying eb = some (.int .u8)) (hc : P.cellsOf eb = 1) (hz : ∀ w, (zeroValue te).run P w = .ok (.bool false) w)
    (hm : a.eval m = .map (some b)) (k : K32) (hx : a.eval x = .agg (bytesA k.1)) (r : Bool) (hr : decide (k ∈ s) = r)
    (hK : wpList P ops Q rest (a.put o.dst (.bool r)) w) : wpList P ops Q (o :: rest) a w :=
  wpList_step fun K hK' => by
    rw [if_pos hw]
    have h' := hK' _ _ hK
    have hrun : (execOp a.eval o).run P w = .ok (.value (.bool r)) w := by
      unfold execOp
      simp [hop, hm, hx, h.look ht hk he hc hz k, Result.andThen, hr]
    unfold Oper.wp
    rw [hrun, Oper.upon_value]
    exact h'
theorem wpList_updB (hg : o.guard = none) (m x v : Operand) (hop : o.op = .mapUpdate t m x v) {b : Nat} {s : List K32} (h : MapB w b s)
    (ht : P.underlying t = some (.map tk te)) (hk : P.underlying tk = some (.array 32 eb)) (he : P.underlying eb = some (.int .u8)) (hc : P.cellsOf eb = 1)
    (hm : a.eval m = .map (some b)) (k : K32) (hx : a.eval x = .agg (bytesA k.1)) (r : Bool) (hv : a.eval v = .bool r) (s' : List K32) (hr : decide (k ∈ s') = r) (hs : ∀ y, y ≠ k → (y ∈ s' ↔ y ∈ s))
    (hK : ∀ w', Only [b] w w' → MapB w' b s' → wpList P ops Q rest (a.put o.dst undef) w') : wpList P ops Q (o :: rest) a w := by
  refine wpList_plain hg fun K' hK' => ?_
  obtain ⟨w', hrun, r1, r2⟩ := h.update ht hk he hc k r hr hs
  unfold Oper.wp
  simp [execOp, hop, hm, hx, hv, hrun, Result.andThen]
  exact hK' _ _ (hK w' r1 r2)
theorem wpQuiet_lookB {C : World → Prop} {Q : Act → Prop} (hw : Region.wanted o (yielded ops a.tmps) = true) (m x : Operand) (hop : o.op = .lookup t m x false) {b : Nat} {s : List K32} (h : ∀ w, C w → MapB w b s)
    (ht : P.underlying t = some (.map tk te)) (hk : P.underlying tk = some (.array 32 eb)) (he : P.underlying eb = some (.int .u8)) (hc : P.cellsOf eb = 1) (hz : ∀ w, (zeroValue te).run P w = .ok (.bool false) w)
    (hm : a.eval m = .map (some b)) (k : K32) (hx : a.eval x = .agg (bytesA k.1)) (r : Bool) (hr : decide (k ∈ s) = r)
    (hK : wpQuiet P ops C Q rest (a.put o.dst (.bool r))) : wpQuiet P ops C Q (o :: rest) a :=
  wpQuiet_of_run hw (.bool r) (fun w hC => by
    unfold execOp
    simp [hop, hm, hx, (h w hC).look ht hk he hc hz k, Result.andThen, hr]) hK
/-- a guard: it fits at a look-up alone -/
theorem at_qlook {C : World → Prop} {Q : Act → Prop} {dst : Option Tmp} {ty ty0 : TypeId} {pos : String} {after : Array Edge} {gd : Option (Nat × Bool)} (i j : Nat)
    (h : wpQuiet P ops C Q ({ dst := dst, op := .lookup ty (.tmp i) (.tmp j) false, type := ty0, pos := pos, after := after, guard := gd } :: rest) a) :
    wpQuiet P ops C Q ({ dst := dst, op := .lookup ty (.tmp i) (.tmp j) false, type := ty0, pos := pos, after := after, guard := gd } :: rest) a := h
theorem at_look {dst : Option Tmp} {ty ty0 : TypeId} {pos : String} {after : Array Edge} {gd : Option (Nat × Bool)} (i j : Nat)
    (h : wpList P ops Q ({ dst := dst, op := .lookup ty (.tmp i) (.tmp j) false, type := ty0, pos := pos, after := after, guard := gd } :: rest) a w) :
    wpList P ops Q ({ dst := dst, op := .lookup ty (.tmp i) (.tmp j) false, type := ty0, pos := pos, after := after, guard := gd } :: rest) a w := h
theorem at_upd {dst : Option Tmp} {ty ty0 : TypeId} {v : Operand} {pos : String} {after : Array Edge} {gd : Option (Nat × Bool)} (i j : Nat)
    (h : wpList P ops Q ({ dst := dst, op := .mapUpdate ty (.tmp i) (.tmp j) v, type := ty0, pos := pos, after := after, guard := gd } :: rest) a w) :
    wpList P ops Q ({ dst := dst, op := .mapUpdate ty (.tmp i) (.tmp j) v, type := ty0, pos := pos, after := after, guard := gd } :: rest) a w := h
end
end Go.Proofs.Yticphjnabecanaa
