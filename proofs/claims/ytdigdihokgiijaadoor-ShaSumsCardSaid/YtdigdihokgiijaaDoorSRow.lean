/- 'SRow w base v n xs': v is a slice of n one-cell elements xs, in a row of the call's own (its block is base or later), whose cells may all be written, whatever marks lie beside them. For '[]byte(s)', whose row bears a mark. Over any program. -/
import Derived.Test.YtdigdihokgiijaaDoorApp2
import Derived.Laws.IdiomStrings
import Derived.ArgAppend
namespace Go.Proofs.YtdigdihokgiijaaDoor
open Go.RowKit
def SRow (w : World) (base : Nat) (v : Value) (n : Nat) (xs : List Value) : Prop :=
  xs.length = n ∧ ((v = .slice none 0 0 ∧ n = 0) ∨ ∃ g cap, v = .slice (some ⟨g, 0, none⟩) n cap ∧ base ≤ g ∧ g < w.heap.size ∧ n ≤ cap ∧ cap ≤ maxLen ∧
    (∀ j u, xs[j]? = some u → w.cell? ⟨g, j, none⟩ = some u) ∧ ∀ j, j < cap → (w.cell? ⟨g, j, none⟩).isSome = true ∧ w.frozen? ⟨g, j, none⟩ = false)
section
variable {w w' : World} {base n : Nat} {v : Value} {xs : List Value}
theorem SRow.of_own {e : TypeId} (h : w.ownsRow base e 1 v n xs) : SRow w base v n xs := by
  have hx := h.1
  rw [Nat.mul_one] at hx
  refine ⟨hx, ?_⟩
  rcases h.2 with h0 | ⟨g, cap, cur, rfl, hb, hh, hn, hc, hs, ht⟩
  · exact .inl h0
  · refine .inr ⟨g, cap, rfl, hb, (Array.getElem?_eq_some_iff.1 hh).1, hn, hc, fun j u hu => ?_, fun j hj => ?_⟩
    · have := h.cells (g := g) rfl j u hu
      rwa [show (⟨g, 0, none⟩ : Addr).add j = ⟨g, j, none⟩ by unfold Addr.add; split <;> simp_all] at this
    · rw [Nat.mul_one] at hs
      exact ⟨by rw [cell_of_row w g j cur e (0, 0) hh, Array.getElem?_eq_getElem (by omega)]; rfl, by simp [World.frozen?, hh]⟩
theorem SRow.keep (h : SRow w base v n xs) (hk : ∀ b, base ≤ b → b < w.heap.size → w'.heap[b]? = w.heap[b]?) (hz : w.heap.size ≤ w'.heap.size) : SRow w' base v n xs := by
  refine ⟨h.1, ?_⟩
  rcases h.2 with h0 | ⟨g, cap, rfl, hb, hg, hn, hc, hx, hw⟩
  · exact .inl h0
  · have hcell : ∀ j, w'.cell? ⟨g, j, none⟩ = w.cell? ⟨g, j, none⟩ := fun j => World.cell?_of_block (a := ⟨g, j, none⟩) (hk g hb hg)
    have hfr : ∀ j, w'.frozen? ⟨g, j, none⟩ = w.frozen? ⟨g, j, none⟩ := fun j => by unfold World.frozen?; rw [hk g hb hg]
    exact .inr ⟨g, cap, rfl, hb, by omega, hn, hc, fun j u hu => (hcell j).trans (hx j u hu), fun j hj => by rw [hcell, hfr]; exact hw j hj⟩
theorem SRow.below (h : SRow w base v n xs) (hb : Below w.heap.size w w') : SRow w' base v n xs := h.keep (fun b _ hlt => hb.block b hlt) hb.size
theorem SRow.alloc (h : SRow w base v n xs) (o : Obj) : SRow (w.alloc o) base v n xs := h.below ((Below.refl _ _).alloc (Nat.le_refl _) o)
theorem SRow.drew (h : SRow w base v n xs) : SRow w.drew base v n xs := h
theorem SRow.drewN (h : SRow w base v n xs) (k : Nat) : SRow (w.drewN k) base v n xs := h
theorem SRow.reads (h : SRow w base v n xs) : ∃ A c, v = .slice A n c ∧ Reads w w.heap.size 1 A n xs := by
  rcases h.2 with ⟨rfl, rfl⟩ | ⟨g, cap, rfl, hb, hg, hn, hc, hx, hw⟩
  · exact ⟨none, 0, rfl, by rw [h.1, Nat.mul_one], fun h0 => absurd h0 (by omega)⟩
  · refine ⟨some ⟨g, 0, none⟩, cap, rfl, by rw [h.1, Nat.mul_one], fun _ => ⟨_, rfl, hg, fun j u hu => ?_⟩⟩
    rw [show (⟨g, 0, none⟩ : Addr).add j = ⟨g, j, none⟩ by unfold Addr.add; split <;> simp_all]
    exact hx j u hu
end
theorem SRow.stored {w : World} {base n cap g : Nat} {xs : List Value} (h : SRow w base (.slice (some ⟨g, 0, none⟩) n cap) n xs) (hroom : n + 1 ≤ cap) (u : Value) (hg : base ≤ g) :
    SRow (w.setCell ⟨g, n, none⟩ u) base (.slice (some ⟨g, 0, none⟩) (n + 1) cap) (n + 1) (xs ++ [u]) ∧ (base ≤ g → Below base w (w.setCell ⟨g, n, none⟩ u)) := by
  rcases h.2 with ⟨h0, _⟩ | ⟨g', cap', h0, hb, hlt, hn, hc, hx, hw⟩
  · cases h0
  · injection h0 with h0 _ h1
    injection h0 with h0
    injection h0 with h0
    subst h0 h1
    have hs : (w.cell? ⟨g, n, none⟩).isSome = true := (hw n (by omega)).1
    obtain ⟨old, hold⟩ := Option.isSome_iff_exists.1 hs
    refine ⟨⟨by simp [h.1], .inr ⟨g, cap, rfl, hg, by simpa [World.setCell] using hlt, hroom, hc, fun j x hj => ?_, fun j hj => ?_⟩⟩, fun hbg => (Below.refl _ _).setCell hbg u⟩
    · by_cases e : j = n
      · subst e
        rw [List.getElem?_append_right (by rw [h.1]; exact Nat.le_refl _), h.1, Nat.sub_self] at hj
        simp at hj
        subst hj
        exact World.cell?_setCell_same _ _ _ hold
      · have hjl : j < n := by
          rcases Nat.lt_or_ge j (xs ++ [u]).length with h2 | h2
          · rw [List.length_append, h.1] at h2; simp at h2; omega
          · rw [List.getElem?_eq_none h2] at hj; cases hj
        rw [List.getElem?_append_left (by rw [h.1]; exact hjl)] at hj
        rw [World.cell?_setCell_other _ _ _ _ (fun e2 => by injection e2 with _ e2; exact e e2.symm)]
        exact hx j x hj
    · rw [World.frozen?_setCell]
      refine ⟨?_, (hw j hj).2⟩
      by_cases e : j = n
      · subst e; rw [World.cell?_setCell_same _ _ _ hold]; rfl
      · rw [World.cell?_setCell_other _ _ _ _ (fun e2 => by injection e2 with _ e2; exact e e2.symm)]
        exact (hw j hj).1
/-- one element put behind such a row -/
theorem wpList_append1s {P : Program} {ops : Array Oper} {rest : List Oper} {o : Oper} {a : Act} {w : World} {Q : Exit → Act → World → Prop} (hgd : o.guard = none) (s x : Operand) (t : TypeId)
    (ho : o.op = .call { callee := .builtin .append, args := #[s, x], argTypes := #[t, t] })
    (base : Nat) (e : TypeId) (z : Value) (bytes : Nat) (ht : P.underlying t = some (.slice e)) (hi : (P.info? e).map (fun i => (i.zero, i.size, i.bytes)) = some (some z, 1, bytes))
    (hzs : z.cells.size = 1) (hby : bytes ≤ 64) (v : Value) (n : Nat) (xs : List Value) (hs : a.eval s = v) (hown : SRow w base v n xs)
    (g c : Nat) (u : Value) (hx : a.eval x = .slice (some ⟨g, 0, none⟩) 1 c) (hb : Blk w g e #[u]) (h1 : u.oneCell' = true) (hn : n + 1 ≤ 1000000000) (hbase : base ≤ w.heap.size)
    (h : ∀ v' w', SRow w' base v' (n + 1) (xs ++ [u]) → Below base w w' → wpList P ops Q rest (a.put o.dst v') w') : wpList P ops Q (o :: rest) a w := by
  obtain ⟨i, hi0, hz0, hz1, hz2⟩ := info_parts hi
  have hbb : (n + 1) * bytes ≤ 1000000000 * 64 := Nat.mul_le_mul hn hby
  rcases hown.2 with ⟨rfl, rfl⟩ | ⟨g', cap, rfl, hbg, hlt, hnc, hc, hcell, hw⟩
  · have hx0 : xs = [] := List.eq_nil_of_length_eq_zero hown.1
    subst hx0
    refine wpList_append1g hgd s x t ho base e z bytes ht hi hzs hby (.slice none 0 0) 0 [] hs (World.ownsRow_nil w base e 1) g c u hx hb h1 hn hbase fun v' w' o1 g1 _ => ?_
    exact h v' w' (SRow.of_own o1) (grown_below g1 (World.ownsRow_nil w base e 1) hbase)
  · refine wpList_append_arg w hgd s x t ho e i z 1 bytes ht hi0 hz0 hz1 hz2 hzs (by omega) g' 0 n cap xs hs (by rw [hown.1, Nat.mul_one]) (fun j y hy => by rw [Nat.zero_add]; exact hcell j y hy) ⟨g, 0, none⟩ 1 c [u] hx rfl ?_ ?_ ?_ ?_ ?_ ?_ ?_
    · intro j y hj
      match j, hj with
      | 0, hj => simp at hj; subst hj; simpa [Addr.add] using hb.cell 0
    · intro y hy; simp at hy; subst hy; exact h1
    · intro hr j hj
      simp at hj
      subst hj
      rw [Nat.zero_add, Nat.mul_one, Nat.add_zero]
      exact hw n (by omega)
    · unfold maxLen; omega
    · omega
    · intro hr
      rw [Nat.zero_add, Nat.mul_one]
      have hst := SRow.stored hown hr u hbg
      exact h _ _ hst.1 (hst.2 hbg)
    · intro hr v' w' o1 g1
      exact h v' w' (SRow.of_own (by
        refine ⟨o1.1, ?_⟩
        rcases o1.2 with h0 | ⟨g2, c2, cur, r1, r2, r3⟩
        · exact .inl h0
        · exact .inr ⟨g2, c2, cur, r1, by omega, r3⟩)) ((Below.refl _ _).grown g1 hbase (fun k hk => by cases hk))
theorem run_append_grows1 {P : Program} {w : World} (t ty e : TypeId) (z : Value) (bytes : Nat) (ht : P.underlying t = some (.slice e)) (hi : (P.info? e).map (fun i => (i.zero, i.size, i.bytes)) = some (some z, 1, bytes)) (hzs : z.cells.size = 1) (hby : bytes ≤ 64)
    (g' cap n : Nat) (xs : List Value) (hx : xs.length = n) (hcell : ∀ j u, xs[j]? = some u → w.cell? ⟨g', j, none⟩ = some u) (g c : Nat) (u : Value) (hb : Blk w g e #[u]) (hr : cap < n + 1) (hn : n + 1 ≤ 1000000000) :
    ∃ v' w', (Builtin.append_ #[t, t] ty #[.slice (some ⟨g', 0, none⟩) n cap, .slice (some ⟨g, 0, none⟩) 1 c]).run P w = .ok v' w' ∧ w'.ownsRow w.heap.size e 1 v' (n + 1) (xs ++ [u]) ∧ w.grownBy w' none := by
  obtain ⟨i, hi0, hz0, hz1, hz2⟩ := info_parts hi
  have hbb : (n + 1) * bytes ≤ 1000000000 * 64 := Nat.mul_le_mul hn hby
  refine run_append_arg_grows (P := P) w t ty e i z 1 bytes ht hi0 hz0 hz1 hz2 hzs (by omega) ⟨g', 0, none⟩ n cap xs (by rw [hx, Nat.mul_one]) (fun j y hy => ?_) ⟨g, 0, none⟩ 1 c [u] rfl (fun j y hy => ?_) hr (by unfold maxLen; omega) (by omega)
  · rw [show (⟨g', 0, none⟩ : Addr).add j = ⟨g', j, none⟩ by unfold Addr.add; split <;> simp_all]
    exact hcell j y hy
  · match j, hy with
    | 0, hy => simp at hy; subst hy; simpa [Addr.add] using hb.cell 0
/-- one element put behind such a row, as one step of a region that draws; the elements that were there are where they were -/
theorem step_append1s {P : Program} {ops : Array Oper} {o : Oper} {a : Act} {w : World} {K : Act → World → Prop} {Q : Exit → Act → World → Prop} {E : Prop} (hgd : o.guard = none) (s x : Operand) (t : TypeId)
    (ho : o.op = .call { callee := .builtin .append, args := #[s, x], argTypes := #[t, t] })
    (base : Nat) (e : TypeId) (z : Value) (bytes : Nat) (ht : P.underlying t = some (.slice e)) (hi : (P.info? e).map (fun i => (i.zero, i.size, i.bytes)) = some (some z, 1, bytes))
    (hzs : z.cells.size = 1) (hby : bytes ≤ 64) (g' cap n : Nat) (xs : List Value) (hs : a.eval s = .slice (some ⟨g', 0, none⟩) n cap) (hown : SRow w base (.slice (some ⟨g', 0, none⟩) n cap) n xs)
    (g c : Nat) (u : Value) (hx : a.eval x = .slice (some ⟨g, 0, none⟩) 1 c) (hb : Blk w g e #[u]) (h1 : u.oneCell' = true) (hn : n + 1 ≤ 1000000000) (hbase : base ≤ w.heap.size)
    (h : ∀ v' w', SRow w' base v' (n + 1) (xs ++ [u]) → Below base w w' → (∀ j, j < n → w'.cell? ⟨g', j, none⟩ = w.cell? ⟨g', j, none⟩) → K (a.put o.dst v') w') :
    if Region.wanted o (yielded ops a.tmps) = true then Oper.wp P o a w K Q else E := by
  have hw : Region.wanted o (yielded ops a.tmps) = true := by simp [Region.wanted, hgd]
  rw [if_pos hw]
  rcases hown.2 with ⟨h0, _⟩ | ⟨g0, cap0, h0, hbg, hlt, hnc, hc, hcell, hwr⟩
  · cases h0
  · injection h0 with h0 _ h2
    injection h0 with h0
    injection h0 with h0
    subst h0 h2
    by_cases hr : n + 1 ≤ cap
    · obtain ⟨i, hi0, hz0, hz1, hz2⟩ := info_parts hi
      have hrun := run_append_room_cells (P := P) w t o.type e i ht hi0 g' 0 n cap ⟨g, 0, none⟩ 1 c [u] (by rw [hz1]; rfl) (fun j y hy => by
        match j, hy with
        | 0, hy => simp at hy; subst hy; simpa [Addr.add] using hb.cell 0) (fun y hy => by simp at hy; subst hy; exact h1) hr (fun j hj => by
          simp at hj; subst hj; rw [hz1, Nat.zero_add, Nat.mul_one, Nat.add_zero]; exact (hwr n (by omega)).1) (fun j hj => by
          simp at hj; subst hj; rw [hz1, Nat.zero_add, Nat.mul_one, Nat.add_zero]; exact (hwr n (by omega)).2)
      rw [hz1, Nat.zero_add, Nat.mul_one] at hrun
      have hst := SRow.stored hown hr u hbg
      unfold Oper.wp
      simp [execOp, ho, resolve, invoke, builtin, hs, hx, hrun, Result.andThen]
      exact h _ _ hst.1 (hst.2 hbg) (fun j hj => World.cell?_setCell_other _ _ _ _ (fun e2 => by injection e2 with _ e2; omega))
    · obtain ⟨v', w', hrun, o1, g1⟩ := run_append_grows1 (P := P) t o.type e z bytes ht hi hzs hby g' cap n xs hown.1 hcell g c u hb (by omega) hn
      unfold Oper.wp
      simp [execOp, ho, resolve, invoke, builtin, hs, hx, hrun, Result.andThen]
      refine h _ _ (SRow.of_own (by
        refine ⟨o1.1, ?_⟩
        rcases o1.2 with h0 | ⟨g2, c2, cur, r1, r2, r3⟩
        · exact .inl h0
        · exact .inr ⟨g2, c2, cur, r1, by omega, r3⟩)) ((Below.refl _ _).grown g1 hbase (fun k hk => by cases hk)) (fun j hj => ?_)
      exact World.cell?_of_block (a := ⟨g', j, none⟩) (g1.block g' hlt (by simp))
theorem SRow.cellAt {w : World} {base n g cap : Nat} {xs : List Value} (h : SRow w base (.slice (some ⟨g, 0, none⟩) n cap) n xs) (j : Nat) (u : Value) (hj : xs[j]? = some u) : w.cell? ⟨g, j, none⟩ = some u := by
  rcases h.2 with ⟨h0, _⟩ | ⟨g0, cap0, h0, _, _, _, _, hcell, _⟩
  · cases h0
  · injection h0 with h0 _ _
    injection h0 with h0
    injection h0 with h0
    subst h0
    exact hcell j u hj
theorem SRow.form {w : World} {base n : Nat} {v : Value} {xs : List Value} (h : SRow w base v n xs) (hn : 0 < n) : ∃ g cap, v = .slice (some ⟨g, 0, none⟩) n cap ∧ base ≤ g ∧ g < w.heap.size := by
  rcases h.2 with ⟨_, h0⟩ | ⟨g0, cap0, h0, hb, hlt, _⟩
  · omega
  · exact ⟨g0, cap0, h0, hb, hlt⟩
/-- what '[]byte(s)' lays is such a row -/
theorem SRow.of_bytes (w : World) (e : TypeId) (s : ByteArray) (base cap : Nat) (hb : base ≤ w.heap.size) (hcap : s.size ≤ cap) (hm : cap ≤ maxLen) :
    SRow (w.drew.alloc (.cells (bytesRow s cap) e ((bytesRow s cap).size, (bytesRow s cap).size + 1))) base (.slice (some ⟨w.heap.size, 0, none⟩) s.size cap) s.size (s.data.toList.map fun b => Value.int .u8 (b.toNat : Int)) := by
  have hsz : (bytesRow s cap).size = cap := by
    have h0 : s.data.size = s.size := rfl
    unfold bytesRow
    rw [Array.size_append, Array.size_map, Array.size_replicate, h0]
    omega
  have hh : (w.drew.alloc (.cells (bytesRow s cap) e ((bytesRow s cap).size, (bytesRow s cap).size + 1))).heap[w.heap.size]? = some (.cells (bytesRow s cap) e ((bytesRow s cap).size, (bytesRow s cap).size + 1)) := heap_alloc_new w.drew _
  refine ⟨by rw [List.length_map, Array.length_toList]; rfl, .inr ⟨w.heap.size, cap, rfl, hb, by simp, hcap, hm, fun j u hu => ?_, fun j hj => ⟨?_, ?_⟩⟩⟩
  · rw [cell_of_row _ _ _ _ _ _ hh]
    rw [List.getElem?_map] at hu
    have hj : j < s.data.size := by
      rcases Nat.lt_or_ge j s.data.toList.length with h | h
      · simpa using h
      · rw [List.getElem?_eq_none h] at hu; cases hu
    rw [Array.getElem?_toList, Array.getElem?_eq_getElem hj] at hu
    simp only [Option.map_some, Option.some.injEq] at hu
    subst hu
    have hj' : j < s.size := hj
    simp [bytesRow, Array.getElem?_append, hj']
  · rw [cell_of_row _ _ _ _ _ _ hh, Array.getElem?_eq_getElem (by omega)]; rfl
  · have e2 : (w.drew.alloc (.cells (bytesRow s cap) e ((bytesRow s cap).size, (bytesRow s cap).size + 1))).frozen? ⟨w.heap.size, j, none⟩ = (decide ((bytesRow s cap).size ≤ j) && decide (j < (bytesRow s cap).size + 1)) := by
      simp only [World.frozen?]
      rw [hh]
    rw [e2, hsz]
    have h3 : decide (cap ≤ j) = false := by simpa using hj
    rw [h3]
    rfl
end Go.Proofs.YtdigdihokgiijaaDoor
