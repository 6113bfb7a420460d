/- A parameter that is a slice of bools: read as a list of bools. Over any program. -/
import Derived.Test.YtdojjddobepccaaRowK
import Derived.Test.YtdojjddobepccaaRowArg
import Derived.Deep.Slices
namespace Go.Proofs.Ytdojjddobepccaa
open Go.RowKit Go.ChangeShapes Go.WideShapes
def encB (b : Bool) : List Value := [.bool b]
theorem encB_len (b : Bool) : (encB b).length = 1 := rfl
section
variable {H : Type} {enc : TypeId × Value → H} {P : Program} {w : World} {base : Nat} {spare : Nat → Bool} {held : Bool} {t e : TypeId} {v : Value} {d : DataW H} {ps : List MemPlace}
theorem open_bools {r : Reach} {b0 : Nat} (ht : P.underlying t = some (.slice e)) (he : P.underlying e = some .bool) (hc : P.cellsOf e = 1)
    (hval : Value.okWide P w r b0 t v) (hd : DataW.Trod enc P w base spare held t v d ps) : ∃ A c l, v = .slice A (l : List Bool).length c ∧ RowIn encB 1 w w.heap.size A c l := by
  obtain ⟨A, n, cap, rfl⟩ := okWide_slice ht hval
  obtain ⟨fuel, hf⟩ := hd
  rcases Deep.open_slice ht hf with ⟨hcs, _⟩ | ⟨a, len, c, m, n', D, Pl, hcs, _, hl, hm, hmm, _, hx⟩
  · simp [Value.cells] at hcs
    obtain ⟨rfl, rfl, rfl⟩ := hcs
    exact ⟨none, 0, [], rfl, RowIn.nil (Nat.zero_le _)⟩
  · simp [Value.cells] at hcs
    obtain ⟨rfl, rfl, rfl⟩ := hcs
    have hlm : n ≤ m := by rw [hmm]; split <;> omega
    rw [hc] at hx
    obtain ⟨f, hf'⟩ := Deep.choose_lt (n := n) (p := fun i (k : Bool) => w.cells? base (a.add (i * 1)) 1 = some (encB k)) (fun i hi => by
      obtain ⟨cs', h1, h2⟩ := hx i (by omega)
      obtain ⟨k, rfl, _⟩ := DataW.trod_bool he h2
      exact ⟨k, h1⟩)
    have hrow : ∀ j u, (cellsOf encB ((List.range n).map f))[j]? = some u → w.cell? (a.add j) = some u := by
      intro j u hj
      have hj' := (List.getElem?_eq_some_iff.1 hj).1
      rw [cellsOf_len encB_len, List.length_map, List.length_range] at hj'
      have hq : j < n := by omega
      rw [show j = j * 1 + 0 by omega, cellsOf_at encB_len _ j (by simpa using hq) 0 (by omega)] at hj
      simp only [List.getElem_map, List.getElem_range] at hj
      have h3 := (World.cells?_some (hf' j hq)).2.2 0 (by omega)
      rw [Deep.add_add, Nat.mul_one, Nat.add_zero] at h3
      rw [h3]
      simpa using hj
    refine ⟨some a, cap, (List.range n).map f, by simp, by simpa using hl, hm, fun hn => ?_⟩
    have hn0 : 0 < n := by
      rcases Nat.eq_zero_or_pos n with h0 | h0
      · subst h0; simp at hn
      · exact h0
    have hz : 0 < (cellsOf encB ((List.range n).map f)).length := by rw [cellsOf_len encB_len]; simp; omega
    have h0 := hrow 0 _ (List.getElem?_eq_getElem hz)
    obtain ⟨b, off, spot⟩ := a
    have hspot : spot = none := by simpa [Addr.add] using World.cell?_spot h0
    subst hspot
    refine ⟨b, off, rfl, ?_, fun j u hj => ?_⟩
    · have := World.block_lt_of_cell? w _ h0
      rwa [block_of_add] at this
    · have hadd : (⟨b, off, none⟩ : Addr).add j = ⟨b, off + j, none⟩ := by unfold Addr.add; split <;> simp_all
      rw [← hadd]; exact hrow j u hj
end
end Go.Proofs.Ytdojjddobepccaa
