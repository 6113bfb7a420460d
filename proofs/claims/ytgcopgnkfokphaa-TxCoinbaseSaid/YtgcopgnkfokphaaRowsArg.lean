/- A slice of elements of k cells that came in, alone or in a field: read as a list. Over any program. -/
import Derived.Test.YtgcopgnkfokphaaRowK
import Derived.Test.YtgcopgnkfokphaaRowArg
import Derived.Deep.Slices
namespace Go.Proofs.Ytgcopgnkfokphaa
open Go.RowKit Go.ChangeShapes Go.WideShapes
section
variable {α : Type} {en : α → List Value} {k : Nat} {H : Type} {enc : TypeId × Value → H} {P : Program} {w : World} {base : Nat} {spare : Nat → Bool} {held : Bool} {t tk : TypeId}
theorem trod_rows {fuel : Nat} {cs : List Value} {x : DataW H × List MemPlace} (hlen : ∀ x, (en x).length = k) (h0 : 0 < k) (ht : P.underlying t = some (.slice tk)) (hct : P.cellsOf tk = k)
    (hel : ∀ (fuel : Nat) (cs : List Value) (x : DataW H × List MemPlace), cs.length = k → DataW.trod enc P w base spare held fuel tk cs = some x → ∃ a, cs = en a) (h : DataW.trod enc P w base spare held fuel t cs = some x) :
    ∃ A c l, cs = [.slice A (l : List α).length c] ∧ RowIn en k w w.heap.size A c l := by
  rcases Deep.open_slice ht h with ⟨rfl, _⟩ | ⟨a, n, c, m, n', D, Pl, rfl, _, hl, hm, hmm, _, hx⟩
  · exact ⟨none, 0, [], rfl, RowIn.nil (Nat.zero_le _)⟩
  · have hlm : n ≤ m := by rw [hmm]; split <;> omega
    rw [hct] at hx
    rcases Nat.eq_zero_or_pos n with hn0 | hn0
    · subst hn0
      exact ⟨some a, c, [], rfl, RowIn.nil hm⟩
    · have hex : ∀ i, i < n → ∃ q, w.cells? base (a.add (i * k)) k = some (en q) := fun i hi => by
        obtain ⟨cs', h1, h2⟩ := hx i (by omega)
        obtain ⟨_, hlen', _⟩ := World.cells?_some h1
        obtain ⟨q, rfl⟩ := hel _ _ _ hlen' h2
        exact ⟨q, h1⟩
      haveI : Inhabited α := ⟨(hex 0 hn0).choose⟩
      obtain ⟨f, hf'⟩ := Deep.choose_lt (n := n) (p := fun i (q : α) => w.cells? base (a.add (i * k)) k = some (en q)) hex
      have hrow : ∀ j u, (cellsOf en ((List.range n).map f))[j]? = some u → w.cell? (a.add j) = some u := by
        intro j u hj
        have hj' := (List.getElem?_eq_some_iff.1 hj).1
        rw [cellsOf_len hlen, List.length_map, List.length_range] at hj'
        have hq : j / k < n := (Nat.div_lt_iff_lt_mul h0).2 hj'
        have e : j = j / k * k + j % k := (Nat.div_add_mod' j k).symm
        rw [e, cellsOf_at hlen _ (j / k) (by simpa using hq) (j % k) (Nat.mod_lt _ h0)] at hj
        simp only [List.getElem_map, List.getElem_range] at hj
        have h3 := (World.cells?_some (hf' (j / k) hq)).2.2 (j % k) (Nat.mod_lt _ h0)
        rw [Deep.add_add, ← e] at h3
        rw [h3]
        simpa using hj
      refine ⟨some a, c, (List.range n).map f, by simp, by simpa using hl, hm, fun hn => ?_⟩
      have hz : 0 < (cellsOf en ((List.range n).map f)).length := by rw [cellsOf_len hlen]; simp; exact Nat.mul_pos hn0 h0
      have h00 := hrow 0 _ (List.getElem?_eq_getElem hz)
      obtain ⟨b, off, spot⟩ := a
      have hspot : spot = none := by simpa [Addr.add] using World.cell?_spot h00
      subst hspot
      refine ⟨b, off, rfl, ?_, fun j u hj => ?_⟩
      · have := World.block_lt_of_cell? w _ h00
        rwa [block_of_add] at this
      · have hadd : (⟨b, off, none⟩ : Addr).add j = ⟨b, off + j, none⟩ := by unfold Addr.add; split <;> simp_all
        rw [← hadd]; exact hrow j u hj
end
end Go.Proofs.Ytgcopgnkfokphaa
