/- Own rows in place: a splice, append, copy and clear within the row's own block; append of zero values where there is no room. Over any program. -/
import Derived.Test.YtkjgmhamglhggaaCellB
import Derived.Lib.AppendZerosOnto
namespace Go.Proofs.Ytkjgmhamglhggaa
open Go.RowKit
section
variable {w : World} {base g n cap : Nat} {e : TypeId} {k : Nat} {xs : List Value}
theorem own_splice {P : Program} (h : w.ownsRow base e k (.slice (some ⟨g, 0, none⟩) n cap) n xs) (o : Nat) (vs : List Value) (hfit : o + vs.length ≤ n * k) (h1 : ∀ v ∈ vs, v.oneCell' = true) :
    ∃ w', (storeCells ⟨g, o, none⟩ vs).run P w = .ok () w' ∧ Only [g] w w' ∧ w'.ownsRow base e k (.slice (some ⟨g, 0, none⟩) n cap) n (xs.take o ++ vs ++ xs.drop (o + vs.length)) := by
  obtain ⟨cur, hb, hbase, hn, hm, hs, ht⟩ := own_blk h
  have hfit2 : n * k ≤ cap * k := Nat.mul_le_mul_right k hn
  have hst := run_storeCells_at P g o e vs 0 cur w hb (by rw [Nat.add_zero, hs]; omega) h1
  rw [Nat.add_zero] at hst
  have hcl : cur.toList.length = cap * k := by rw [Array.length_toList, hs]
  refine ⟨_, hst, (only_setRow hb _).1, ?_, .inr ⟨g, cap, _, rfl, hbase, (only_setRow hb _).2, hn, hm, ?_, ?_⟩⟩
  · rw [List.length_append, List.length_append, List.length_take, List.length_drop, h.1]; omega
  · rw [List.size_toArray, List.length_append, List.length_append, List.length_take, List.length_drop, hcl]; omega
  · show ((cur.toList.take o ++ vs ++ cur.toList.drop (o + vs.length)).toArray).toList.take (n * k) = _
    have e1 : (cur.toList.take o ++ vs).length = o + vs.length := by rw [List.length_append, List.length_take, hcl]; omega
    rw [← ht]
    simp only []
    rw [List.take_append, List.take_of_length_le (by rw [e1]; exact hfit), e1, List.take_take, Nat.min_eq_left (by omega), List.drop_take]
theorem own_wider (h : w.ownsRow base e k (.slice (some ⟨g, 0, none⟩) n cap) n xs) (m : Nat) (hm : n ≤ m) (hc : m ≤ cap) : ∃ ys, ys.length = (m - n) * k ∧ w.ownsRow base e k (.slice (some ⟨g, 0, none⟩) m cap) m (xs ++ ys) := by
  obtain ⟨cur, hb, hbase, hn, hcm, hs, ht⟩ := own_blk h
  have hcl : cur.toList.length = cap * k := by rw [Array.length_toList, hs]
  have e1 : m * k = n * k + (m - n) * k := by rw [← Nat.add_mul]; congr 1; omega
  have e2 : m * k ≤ cap * k := Nat.mul_le_mul_right k hc
  have hyl : ((cur.toList.drop (n * k)).take ((m - n) * k)).length = (m - n) * k := by rw [List.length_take, List.length_drop, hcl]; omega
  refine ⟨(cur.toList.drop (n * k)).take ((m - n) * k), hyl, ?_, .inr ⟨g, cap, cur, rfl, hbase, hb, hc, hcm, hs, ?_⟩⟩
  · rw [List.length_append, h.1, hyl, e1]
  · rw [e1, List.take_add, ht]
theorem own_less (h : w.ownsRow base e k (.slice (some ⟨g, 0, none⟩) n cap) n xs) (m : Nat) (hm : m ≤ n) : w.ownsRow base e k (.slice (some ⟨g, 0, none⟩) m cap) m (xs.take (m * k)) := by
  obtain ⟨cur, hb, hbase, hn, hcm, hs, ht⟩ := own_blk h
  have e1 : m * k ≤ n * k := Nat.mul_le_mul_right k hm
  refine ⟨by rw [List.length_take, h.1]; omega, .inr ⟨g, cap, cur, rfl, hbase, hb, by omega, hcm, hs, ?_⟩⟩
  rw [← ht, List.take_take, Nat.min_eq_left e1]
theorem own_only {w' : World} {gg : Nat} (h : w.ownsRow base e k (.slice (some ⟨g, 0, none⟩) n cap) n xs) (o : Only [gg] w w') (hne : g ≠ gg) : w'.ownsRow base e k (.slice (some ⟨g, 0, none⟩) n cap) n xs := by
  obtain ⟨cur, hb, hbase, hn, hcm, hs, ht⟩ := own_blk h
  exact ⟨h.1, .inr ⟨g, cap, cur, rfl, hbase, o.blk hb (by simpa using hne), hn, hcm, hs, ht⟩⟩
/-- a part of an own row, read -/
theorem own_reads (h : w.ownsRow base e k (.slice (some ⟨g, 0, none⟩) n cap) n xs) (i m : Nat) (hm : i + m ≤ n) : Reads w w.heap.size k (some ⟨g, i * k, none⟩) m ((xs.drop (i * k)).take (m * k)) := by
  obtain ⟨cur, hb, hbase, hn, hcm, hs, ht⟩ := own_blk h
  have e1 : i * k + m * k ≤ n * k := by rw [← Nat.add_mul]; exact Nat.mul_le_mul_right k hm
  have e2 : n * k ≤ cap * k := Nat.mul_le_mul_right k hn
  refine ⟨by rw [List.length_take, List.length_drop, h.1]; omega, fun _ => ⟨_, rfl, hb.lt, fun j u hj => ?_⟩⟩
  have hjl := (List.getElem?_eq_some_iff.1 hj).1
  rw [List.length_take, List.length_drop, h.1] at hjl
  rw [List.getElem?_take_of_lt (by omega), List.getElem?_drop, ← ht, List.getElem?_take_of_lt (by omega), Array.getElem?_toList] at hj
  rw [Addr.add_lit, hb.cell]
  exact hj
end
theorem shape_blk {w : World} {g : Nat} {t : TypeId} {cs : Array Value} (h : Blk w g t cs) : w.shape? g = some (t, cs.size) := by
  unfold World.shape?
  rw [show w.heap[g]? = _ from h]
theorem own_mono2 {w : World} {base base' : Nat} {e : TypeId} {size n : Nat} {v : Value} {xs : List Value} (h : w.ownsRow base e size v n xs) (hb : base' ≤ base) : w.ownsRow base' e size v n xs :=
  ⟨h.1, h.2.imp id fun ⟨g, cap, cur, h1, h2, h3⟩ => ⟨g, cap, cur, h1, Nat.le_trans hb h2, h3⟩⟩
theorem own_keep {w w' : World} {base n : Nat} {e : TypeId} {k : Nat} {v : Value} {xs : List Value} (h : w.ownsRow base e k v n xs) (hk : ∀ b, v.ownBlock = some b → b < w.heap.size → w'.heap[b]? = w.heap[b]?) : w'.ownsRow base e k v n xs :=
  ⟨h.1, h.2.imp id fun ⟨g, cap, cur, h1, h2, h3, h4⟩ => ⟨g, cap, cur, h1, h2, (hk g (by rw [h1]; rfl) (show Blk w g e cur from h3).lt).trans h3, h4⟩⟩
theorem own_lt {w : World} {base n : Nat} {e : TypeId} {k : Nat} {v : Value} {xs : List Value} (h : w.ownsRow base e k v n xs) : ∀ b, v.ownBlock = some b → b < w.heap.size := by
  intro b hb
  rcases h.2 with ⟨rfl, _⟩ | ⟨g, cap, cur, rfl, h2, h3, h4⟩
  · cases hb
  · obtain rfl : g = b := by simpa [Value.ownBlock] using hb
    exact (show Blk w g e cur from h3).lt
theorem own_drew {w : World} {base n : Nat} {e : TypeId} {k : Nat} {v : Value} {xs : List Value} (h : w.ownsRow base e k v n xs) : w.drew.ownsRow base e k v n xs := h
theorem reads_cut {w : World} {B k g i m : Nat} {xs : List Value} (h : Reads w B k (some ⟨g, i * k, none⟩) m xs) (cap : Nat) (hc : i + m ≤ cap) : Reads w B k (cutA k cap i (some ⟨g, 0, none⟩)) m xs := by
  rcases Nat.eq_zero_or_pos m with h0 | h0
  · subst h0
    exact ⟨h.1, fun h => absurd h (by omega)⟩
  · unfold cutA
    rw [if_neg (by omega)]
    simpa [Addr.add_lit] using h
section
variable {α : Type} {enc : α → List Value} {k : Nat} {P : Program} {t e : TypeId} (T : RowTy P t e enc k)
include T
/-- append in place -/
theorem RowTy.run_append_in {w : World} {base g n cap : Nat} {xs : List Value} (h : w.ownsRow base e k (.slice (some ⟨g, 0, none⟩) n cap) n xs) (m c B : Nat) (A : Option Addr) (vs : List Value) (hr : Reads w B k A m vs) (h1 : ∀ v ∈ vs, v.oneCell' = true) (hroom : n + m ≤ cap) (ty : TypeId) :
    ∃ w', (Builtin.append_ #[t, t] ty #[.slice (some ⟨g, 0, none⟩) n cap, .slice A m c]).run P w = .ok (.slice (some ⟨g, 0, none⟩) (n + m) cap) w' ∧ Only [g] w w' ∧ w'.ownsRow base e k (.slice (some ⟨g, 0, none⟩) (n + m) cap) (n + m) (xs ++ vs) := by
  have hsz := T.size
  cases hie : P.info? e with
  | none => simp [hie] at hsz
  | some ie =>
    simp only [hie, Option.map_some, Option.some.injEq] at hsz
    rcases Nat.eq_zero_or_pos m with h0 | h0
    · subst h0
      obtain rfl : vs = [] := List.eq_nil_of_length_eq_zero (by simpa using hr.1)
      refine ⟨w, ?_, Only.refl _ _, by simpa using h⟩
      obtain ⟨cur, hb, hbase, hn, hcm, hs, ht⟩ := own_blk h
      cases A <;> simp [Builtin.append_, run_underlying T.slice, T.sizeOf, Builtin.lenOf, Builtin.firstCells, hn, storeCells, loadCells, loadCellsFrom]
    · obtain ⟨ad, rfl, _, hc⟩ := hr.2 h0
      obtain ⟨cur, hb, hbase, hn, hcm, hs, ht⟩ := own_blk h
      have hfit : (n + m) * k ≤ cap * k := Nat.mul_le_mul_right k hroom
      rw [Nat.add_mul] at hfit
      have hrun := run_append_room (P := P) w t ty e ie T.slice hie g n cap cur hb ad m c vs (by rw [hsz]; exact hr.1) hc h1 hroom (by rw [hsz, hr.1, hs]; exact hfit)
      rw [hsz] at hrun
      refine ⟨_, hrun, (only_setRow hb _).1, ?_, .inr ⟨g, cap, _, rfl, hbase, (only_setRow hb _).2, hroom, hcm, ?_, ?_⟩⟩
      · rw [List.length_append, h.1, hr.1, Nat.add_mul]
      · have hcl : cur.toList.length = cap * k := by rw [Array.length_toList, hs]
        rw [List.size_toArray, List.length_append, List.length_append, List.length_take, List.length_drop, hcl, hr.1]; omega
      · show ((cur.toList.take (n * k) ++ vs ++ cur.toList.drop (n * k + vs.length)).toArray).toList.take ((n + m) * k) = _
        simp only []
        have e1 : (xs ++ vs).length = (n + m) * k := by rw [List.length_append, h.1, hr.1, Nat.add_mul]
        rw [ht, ← e1]
        exact List.take_left
/-- copy into an own row -/
theorem RowTy.run_copy_own {w : World} {base g n cap : Nat} {xs : List Value} (h : w.ownsRow base e k (.slice (some ⟨g, 0, none⟩) n cap) n xs) (i dl dc sl sc m B : Nat) (A : Option Addr) (vs : List Value) (hm : min sl dl = m) (h0 : 0 < m) (hr : Reads w B k A m vs) (h1 : ∀ v ∈ vs, v.oneCell' = true) (hfit : i + m ≤ n) (ty : TypeId) :
    ∃ w', (Builtin.copy_ #[t, t] ty #[.slice (some ⟨g, i * k, none⟩) dl dc, .slice A sl sc]).run P w = .ok (goInt m) w' ∧ Only [g] w w' ∧ w'.ownsRow base e k (.slice (some ⟨g, 0, none⟩) n cap) n (xs.take (i * k) ++ vs ++ xs.drop (i * k + vs.length)) := by
  have hsz := T.size
  cases hie : P.info? e with
  | none => simp [hie] at hsz
  | some ie =>
    simp only [hie, Option.map_some, Option.some.injEq] at hsz
    obtain ⟨ad, rfl, _, hc⟩ := hr.2 h0
    have e1 : i * k + m * k ≤ n * k := by rw [← Nat.add_mul]; exact Nat.mul_le_mul_right k hfit
    obtain ⟨w', hst, o', r'⟩ := own_splice (P := P) h (i * k) vs (by rw [hr.1]; exact e1) h1
    have hf := run_firstCells_some (P := P) w k m ad sl sc vs hr.1 hc
    refine ⟨w', ?_, o', r'⟩
    have hm' : Nat.min sl dl = m := hm
    simp [Builtin.copy_, run_underlying T.slice, Builtin.lenOf, T.sizeOf, hm', hf, hst]
/-- clear behind an own row -/
theorem RowTy.run_clear_behind {w : World} {base g n cap : Nat} {xs : List Value} (h : w.ownsRow base e k (.slice (some ⟨g, 0, none⟩) n cap) n xs) (z : Value) (hz : ∀ w, (zeroValue e).run P w = .ok z w) (hz1 : ∀ v ∈ z.cells, v.oneCell' = true) (hzs : z.cells.size = k) (ty : TypeId) (m c : Nat) (hm : n + m ≤ cap) :
    ∃ w', (Builtin.clear_ #[t] ty #[.slice (some ⟨g, n * k, none⟩) m c]).run P w = .ok (.tuple #[]) w' ∧ Only [g] w w' ∧ w'.ownsRow base e k (.slice (some ⟨g, 0, none⟩) n cap) n xs := by
  rcases m with _ | m
  · exact ⟨w, by simp [Builtin.clear_, run_underlying T.slice], Only.refl _ _, h⟩
  · obtain ⟨ys, hyl, hw⟩ := own_wider h (n + (m + 1)) (by omega) hm
    have hzl : (Builtin.zeroCells z.cells (m + 1)).toList.length = (m + 1) * k := by simp [Builtin.zeroCells, hzs]
    have hz2 : ∀ v ∈ (Builtin.zeroCells z.cells (m + 1)).toList, v.oneCell' = true := by
      intro v hv
      simp only [Builtin.zeroCells, Array.toList_map, List.mem_map, Array.mem_toList_iff, Array.mem_range] at hv
      obtain ⟨q, hq, rfl⟩ := hv
      have hlt : q % z.cells.size < z.cells.size := Nat.mod_lt _ (by rw [hzs]; exact T.pos)
      rw [getElem!_pos z.cells _ hlt]
      exact hz1 _ (Array.getElem_mem hlt)
    obtain ⟨w', hst, o', r'⟩ := own_splice (P := P) hw (n * k) (Builtin.zeroCells z.cells (m + 1)).toList (by rw [hzl, ← Nat.add_mul]; exact Nat.le_refl _) hz2
    refine ⟨w', by simp [Builtin.clear_, run_underlying T.slice, hz, hst], o', ?_⟩
    have r2 := own_less r' n (by omega)
    rw [show ((xs ++ ys).take (n * k) ++ (Builtin.zeroCells z.cells (m + 1)).toList ++ (xs ++ ys).drop (n * k + (Builtin.zeroCells z.cells (m + 1)).toList.length)).take (n * k) = xs from by
      rw [← h.1, List.take_left, List.append_assoc, List.take_left]] at r2
    exact r2
/-- append of zero values to a cut that has no room for them: a new row -/
theorem RowTy.run_append_zeros {w : World} {base g n cap : Nat} {xs : List Value} (h : w.ownsRow base e k (.slice (some ⟨g, 0, none⟩) n cap) n xs) (tn ty : TypeId) (kn : IntKind) (htn : P.underlying tn = some (.int kn)) (hzi : ((P.info? e).bind (·.zero)).map (·.cells.size) = some k) (bytes : Nat) (hb : (P.info? e).map (·.bytes) = some bytes) (hby : bytes ≤ 100000)
    (m : Nat) (h0 : 0 < m) (hg : cap < n + m) (hbig : n + m ≤ 1000000) :
    ∃ w' c' ys, (Builtin.append_ #[t, tn] ty #[.slice (some ⟨g, 0, none⟩) n cap, .int .i64 m]).run P w = .ok (.slice (some ⟨w.heap.size, 0, none⟩) (n + m) c') w' ∧ ys.length = m * k ∧ Below w.heap.size w w' ∧ w'.ownsRow w.heap.size e k (.slice (some ⟨w.heap.size, 0, none⟩) (n + m) c') (n + m) (xs ++ ys) := by
  have hsz := T.size
  cases hie : P.info? e with
  | none => simp [hie] at hsz
  | some ie =>
    simp only [hie, Option.map_some, Option.some.injEq, Option.bind_some, Option.map_eq_some_iff] at hsz hzi hb
    obtain ⟨z, hz1, hz2⟩ := hzi
    have hrd := own_reads h 0 n (by omega)
    rw [Nat.zero_mul, List.drop_zero, List.take_of_length_le (by rw [h.1]; exact Nat.le_refl _)] at hrd
    have hold : (Builtin.firstCells ie.size n (.slice (some ⟨g, 0, none⟩) n cap)).run P w.drew = .ok xs.toArray w.drew := by
      rw [hsz]
      refine run_firstCells_some (P := P) w.drew k n ⟨g, 0, none⟩ n cap xs h.1 ?_
      intro j u hj
      rcases Nat.eq_zero_or_pos n with hn | hn
      · subst hn
        have := h.1
        rw [Nat.zero_mul] at this
        rw [List.eq_nil_of_length_eq_zero this] at hj
        simp at hj
      · obtain ⟨ad, e1, _, hc⟩ := hrd.2 hn
        obtain rfl := Option.some.inj e1
        exact hc j u hj
    have hk48 : m * ie.bytes ≤ 281474976710656 := by
      rw [hb]
      have : m * bytes ≤ 1000000 * 100000 := Nat.mul_le_mul (by omega) hby
      omega
    have hrun := Lib.run_append_grow_zeros (P := P) w t tn ty e ie z .i64 kn T.slice htn hie hz1 (some ⟨g, 0, none⟩) n cap xs hold m h0 (by rw [hsz]; exact T.pos) hg (by omega) hk48
      (growslice_fits hg (by rw [hb]; have : (n + m) * bytes ≤ 1000000 * 100000 := Nat.mul_le_mul hbig hby; omega))
    refine ⟨_, _, (Builtin.zeroCells z.cells m).toList, hrun, by simp [Builtin.zeroCells, hz2], ((Below.refl _ _).drew).alloc (Nat.le_refl _) _, ?_, .inr ⟨w.heap.size, _, _, rfl, Nat.le_refl _, heap_alloc_new w.drew _, grownCap_ge w _ _ _, grownCap_le_maxLen w _ _ _ (by unfold maxLen; omega), ?_, ?_⟩⟩
    · rw [List.length_append, h.1]; simp [Builtin.zeroCells, hz2, Nat.add_mul]
    · have := grownCap_ge w (n + m) cap e
      simp only [Array.size_append, List.size_toArray, size_zeroCells, hz2, h.1, ← Nat.add_mul]
      congr 1
      omega
    · simp only [Array.toList_append]
      rw [show (n + m) * k = (xs ++ (Builtin.zeroCells z.cells m).toList).length by rw [List.length_append, h.1]; simp [Builtin.zeroCells, hz2, Nat.add_mul]]
      exact List.take_left
theorem RowTy.step_append_in {ops : Array Oper} {o : Oper} {a : Act} {w : World} {K : Act → World → Prop} {Q : Exit → Act → World → Prop} {E : Prop} (hgd : o.guard = none) (s x : Operand)
    (ho : o.op = .call { callee := .builtin .append, args := #[s, x], argTypes := #[t, t] }) (base g n cap : Nat) (xs : List Value) (hs : a.eval s = .slice (some ⟨g, 0, none⟩) n cap) (hown : w.ownsRow base e k (.slice (some ⟨g, 0, none⟩) n cap) n xs)
    (m c B : Nat) (A : Option Addr) (vs : List Value) (hx : a.eval x = .slice A m c) (hr : Reads w B k A m vs) (h1 : ∀ v ∈ vs, v.oneCell' = true) (hroom : n + m ≤ cap)
    (h : ∀ w', Only [g] w w' → w'.ownsRow base e k (.slice (some ⟨g, 0, none⟩) (n + m) cap) (n + m) (xs ++ vs) → K (a.put o.dst (.slice (some ⟨g, 0, none⟩) (n + m) cap)) w') :
    if Region.wanted o (yielded ops a.tmps) = true then Oper.wp P o a w K Q else E := by
  have hw : Region.wanted o (yielded ops a.tmps) = true := by simp [Region.wanted, hgd]
  rw [if_pos hw]
  obtain ⟨w', hrun, h2, h3⟩ := T.run_append_in hown m c B A vs hr h1 hroom o.type
  unfold Oper.wp execOp
  simp only [ho, resolve, invoke, builtin, Sem.run_bind, Sem.run_pure, Result.andThen_ok, List.map_toArray, List.map_cons, List.map_nil, hs, hx, hrun]
  exact h w' h2 h3
theorem RowTy.wpList_clear_behind {ops : Array Oper} {rest : List Oper} {o : Oper} {a : Act} {w : World} {Q : Exit → Act → World → Prop} (hgd : o.guard = none) (x : Operand)
    (ho : o.op = .call { callee := .builtin .clear, args := #[x], argTypes := #[t] }) (hd : o.dst = none) (base g n cap : Nat) (xs : List Value) (hown : w.ownsRow base e k (.slice (some ⟨g, 0, none⟩) n cap) n xs) (z : Value) (hz : ∀ w, (zeroValue e).run P w = .ok z w) (hz1 : ∀ v ∈ z.cells, v.oneCell' = true) (hzs : z.cells.size = k)
    (m c : Nat) (hx : a.eval x = .slice (some ⟨g, n * k, none⟩) m c) (hm : n + m ≤ cap)
    (h : ∀ w', Only [g] w w' → w'.ownsRow base e k (.slice (some ⟨g, 0, none⟩) n cap) n xs → wpList P ops Q rest a w') : wpList P ops Q (o :: rest) a w := by
  refine wpList_plain hgd fun K hK => ?_
  obtain ⟨w', hrun, h1, h2⟩ := T.run_clear_behind hown z hz hz1 hzs o.type m c hm
  unfold Oper.wp
  simp [execOp, ho, resolve, invoke, builtin, hx, hrun, Result.andThen]
  rw [Oper.upon_value, hd]
  exact hK _ _ (h w' h1 h2)
theorem RowTy.wpList_copy_own {ops : Array Oper} {rest : List Oper} {o : Oper} {a : Act} {w : World} {Q : Exit → Act → World → Prop} (hgd : o.guard = none) (x y : Operand)
    (ho : o.op = .call { callee := .builtin .copy, args := #[x, y], argTypes := #[t, t] }) (base g n cap : Nat) (xs : List Value) (hown : w.ownsRow base e k (.slice (some ⟨g, 0, none⟩) n cap) n xs)
    (i dl dc sl sc m B : Nat) (A : Option Addr) (vs : List Value) (hx : a.eval x = .slice (some ⟨g, i * k, none⟩) dl dc) (hy : a.eval y = .slice A sl sc) (hm : min sl dl = m) (h0 : 0 < m) (hr : Reads w B k A m vs) (h1 : ∀ v ∈ vs, v.oneCell' = true) (hfit : i + m ≤ n)
    (h : ∀ w', Only [g] w w' → w'.ownsRow base e k (.slice (some ⟨g, 0, none⟩) n cap) n (xs.take (i * k) ++ vs ++ xs.drop (i * k + vs.length)) → wpList P ops Q rest (a.put o.dst (goInt m)) w') : wpList P ops Q (o :: rest) a w := by
  refine wpList_plain hgd fun K hK => ?_
  obtain ⟨w', hrun, h2, h3⟩ := T.run_copy_own hown i dl dc sl sc m B A vs hm h0 hr h1 hfit o.type
  unfold Oper.wp execOp
  simp only [ho, resolve, invoke, builtin, Sem.run_bind, Sem.run_pure, Result.andThen_ok, List.map_toArray, List.map_cons, List.map_nil, hx, hy, hrun]
  exact hK _ _ (h w' h2 h3)
theorem RowTy.step_copy_own {ops : Array Oper} {o : Oper} {a : Act} {w : World} {K : Act → World → Prop} {Q : Exit → Act → World → Prop} {E : Prop} (hgd : o.guard = none) (x y : Operand)
    (ho : o.op = .call { callee := .builtin .copy, args := #[x, y], argTypes := #[t, t] }) (base g n cap : Nat) (xs : List Value) (hown : w.ownsRow base e k (.slice (some ⟨g, 0, none⟩) n cap) n xs)
    (i dl dc sl sc m B : Nat) (A : Option Addr) (vs : List Value) (hx : a.eval x = .slice (some ⟨g, i * k, none⟩) dl dc) (hy : a.eval y = .slice A sl sc) (hm : min sl dl = m) (h0 : 0 < m) (hr : Reads w B k A m vs) (h1 : ∀ v ∈ vs, v.oneCell' = true) (hfit : i + m ≤ n)
    (h : ∀ w', Only [g] w w' → w'.ownsRow base e k (.slice (some ⟨g, 0, none⟩) n cap) n (xs.take (i * k) ++ vs ++ xs.drop (i * k + vs.length)) → K (a.put o.dst (goInt m)) w') :
    if Region.wanted o (yielded ops a.tmps) = true then Oper.wp P o a w K Q else E := by
  have hw : Region.wanted o (yielded ops a.tmps) = true := by simp [Region.wanted, hgd]
  rw [if_pos hw]
  obtain ⟨w', hrun, h2, h3⟩ := T.run_copy_own hown i dl dc sl sc m B A vs hm h0 hr h1 hfit o.type
  unfold Oper.wp execOp
  simp only [ho, resolve, invoke, builtin, Sem.run_bind, Sem.run_pure, Result.andThen_ok, List.map_toArray, List.map_cons, List.map_nil, hx, hy, hrun]
  exact h w' h2 h3
theorem RowTy.wpList_append_zeros {ops : Array Oper} {rest : List Oper} {o : Oper} {a : Act} {w : World} {Q : Exit → Act → World → Prop} (hgd : o.guard = none) (s x : Operand) (tn : TypeId) (kn : IntKind) (htn : P.underlying tn = some (.int kn))
    (ho : o.op = .call { callee := .builtin .append, args := #[s, x], argTypes := #[t, tn] }) (hzi : ((P.info? e).bind (·.zero)).map (·.cells.size) = some k) (bytes : Nat) (hb : (P.info? e).map (·.bytes) = some bytes) (hby : bytes ≤ 100000)
    (base g n cap : Nat) (xs : List Value) (hs : a.eval s = .slice (some ⟨g, 0, none⟩) n cap) (hown : w.ownsRow base e k (.slice (some ⟨g, 0, none⟩) n cap) n xs) (m : Nat) (hx : a.eval x = .int .i64 m) (h0 : 0 < m) (hg : cap < n + m) (hbig : n + m ≤ 1000000)
    (h : ∀ w' c' ys, ys.length = m * k → Below w.heap.size w w' → w'.ownsRow w.heap.size e k (.slice (some ⟨w.heap.size, 0, none⟩) (n + m) c') (n + m) (xs ++ ys) → wpList P ops Q rest (a.put o.dst (.slice (some ⟨w.heap.size, 0, none⟩) (n + m) c')) w') : wpList P ops Q (o :: rest) a w := by
  refine wpList_plain hgd fun K hK => ?_
  obtain ⟨w', c', ys, hrun, h2, h3, h4⟩ := T.run_append_zeros hown tn o.type kn htn hzi bytes hb hby m h0 hg hbig
  unfold Oper.wp execOp
  simp only [ho, resolve, invoke, builtin, Sem.run_bind, Sem.run_pure, Result.andThen_ok, List.map_toArray, List.map_cons, List.map_nil, hs, hx, hrun]
  exact hK _ _ (h w' c' ys h2 h3 h4)
theorem RowTy.slice_three (w : World) (A : Option Addr) (n c i j m : Nat) (hi : i ≤ j) (hj : j ≤ m) (hm : m ≤ c) :
    (Instr.slice t (.slice A n c) (some (.int .i64 (i : Int))) (some (.int .i64 (j : Int))) (some (.int .i64 (m : Int)))).run P w = .ok (.slice (cutA k m i A) (j - i) (m - i)) w := by
  have he : P.elem t = e := by simp [Program.elem, T.slice]
  rw [run_slice_lhm w t A n c (by rw [he]; exact T.slice) .i64 .i64 .i64 i j m (by omega) (by omega) (by omega) (by omega), he, T.sizeOf]
  simp only [Result.andThen_ok, sliced, Int.toNat_natCast, cutA]
theorem RowTy.step_append_at {ops : Array Oper} {o : Oper} {a : Act} {w : World} {K : Act → World → Prop} {Q : Exit → Act → World → Prop} {E : Prop} (hgd : o.guard = none) (hz : ((P.info? e).bind (·.zero)).map (·.cells.size) = some k) (bytes : Nat) (hb : (P.info? e).map (·.bytes) = some bytes) (hby : bytes ≤ 100000) (s x : Operand)
    (ho : o.op = .call { callee := .builtin .append, args := #[s, x], argTypes := #[t, t] })
    (base : Nat) (v : Value) (l : List α) (hs : a.eval s = v) (hown : w.ownsRow base e k v l.length (cellsOf enc l))
    (B : Nat) (A : Option Addr) (c : Nat) (m : List α) (hx : a.eval x = .slice A m.length c) (hm : RowIn enc k w B A c m) (hn : l.length + m.length ≤ 1000000) (hbase : base ≤ w.heap.size)
    (h : ∀ v' w', w'.ownsRow base e k v' (l ++ m).length (cellsOf enc (l ++ m)) → w.grownBy w' v.ownBlock → (v'.ownBlock = v.ownBlock ∨ v'.ownBlock = some w.heap.size) → K (a.put o.dst v') w') :
    if Region.wanted o (yielded ops a.tmps) = true then Oper.wp P o a w K Q else E := by
  have hsz := T.size
  cases hie : P.info? e with
  | none => simp [hie] at hsz
  | some ie =>
    simp only [hie, Option.map_some, Option.some.injEq, Option.bind_some, Option.map_eq_some_iff] at hsz hz hb
    obtain ⟨z, hz1, hz2⟩ := hz
    refine step_append_any w hgd s x t ho base e ie z k bytes T.slice hie hz1 hsz hb hz2 T.pos v l.length (cellsOf enc l) hs hown B A m.length c (cellsOf enc m) hx (hm.reads T.len) (cellsOf_all1 T.one _) ?_ ?_ hbase ?_
    · unfold maxLen; omega
    · have : (l.length + m.length) * bytes ≤ 1000000 * 100000 := Nat.mul_le_mul hn hby
      omega
    · intro v' w' h2 h3 h4
      exact h v' w' (by rw [List.length_append, cellsOf_append]; exact h2) h3 h4
end
end Go.Proofs.Ytkjgmhamglhggaa
