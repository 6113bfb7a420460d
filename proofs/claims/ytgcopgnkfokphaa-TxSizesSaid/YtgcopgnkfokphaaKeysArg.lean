/- A parameter that is a slice of keys: read as a list of keys. Over any program. -/
import Derived.Test.YtgcopgnkfokphaaKeyP
import Derived.Test.YtgcopgnkfokphaaRowK
import Derived.Test.YtgcopgnkfokphaaKeyArg
import Derived.Test.YtgcopgnkfokphaaRowArg
import Derived.Deep.Slices
namespace Go.Proofs.Ytgcopgnkfokphaa
open Go.RowKit Go.ChangeShapes Go.WideShapes
section
variable {H : Type} {enc : TypeId × Value → H} {P : Program} {w : World} {base : Nat} {spare : Nat → Bool} {held : Bool} {t tk e : TypeId} {v : Value} {d : DataW H} {ps : List MemPlace}
theorem trod_key {fuel : Nat} {cs : List Value} {x : DataW H × List MemPlace} (ht : P.underlying tk = some (.array 32 e)) (he : P.underlying e = some (.int .u8)) (hc : P.cellsOf e = 1) (hl : cs.length = 32)
    (h : DataW.trod enc P w base spare held fuel tk cs = some x) : ∃ k : K32, cs = encK k := by
  obtain ⟨xs, m, rfl, hx, hl', hxl, hi⟩ := DataW.trod_array ht h
  have hel : ∀ i, i < 32 → ∃ z : Int, cs[i]? = some (.int .u8 z) ∧ 0 ≤ z ∧ z < 256 := by
    intro i hlt
    have h1 := hi i hlt
    rw [hc, Nat.mul_one, List.getElem?_eq_getElem (by omega)] at h1
    obtain ⟨z, e1, e2, e3⟩ := DataW.trod_int he h1
    have h2 : (cs.drop i)[0]? = some (.int .u8 z) := by
      have := congrArg (fun q : List Value => q[0]?) e1
      simpa [List.getElem?_take] using this
    refine ⟨z, by simpa using h2, ?_, ?_⟩
    · simp [Lit.wf, IntKind.min, IntKind.max, IntKind.signed, IntKind.bits] at e3; omega
    · simp [Lit.wf, IntKind.min, IntKind.max, IntKind.signed, IntKind.bits] at e3; omega
  refine ⟨⟨cs.map fun v => match v with | .int _ z => UInt8.ofNat z.toNat | _ => 0, by simp [hl]⟩, ?_⟩
  apply List.ext_getElem?
  intro i
  by_cases hlt : i < 32
  · obtain ⟨z, e1, z0, z1⟩ := hel i hlt
    rw [e1]
    simp [encK, bytesA, e1]
    omega
  · rw [List.getElem?_eq_none (by omega), List.getElem?_eq_none (by rw [encK_len]; omega)]
theorem open_keys {r : Reach} {b0 : Nat} (ht : P.underlying t = some (.slice tk)) (hk : P.underlying tk = some (.array 32 e)) (he : P.underlying e = some (.int .u8)) (hc : P.cellsOf e = 1) (hct : P.cellsOf tk = 32)
    (hval : Value.okWide P w r b0 t v) (hd : DataW.Trod enc P w base spare held t v d ps) : ∃ A c l, v = .slice A (l : List K32).length c ∧ RowIn encK 32 w w.heap.size A c l := by
  obtain ⟨A, n, cap, rfl⟩ := okWide_slice ht hval
  obtain ⟨fuel, hf⟩ := hd
  rcases Deep.open_slice ht hf with ⟨hcs, _⟩ | ⟨a, len, c, m, n', D, Pl, hcs, _, hl, hm, hmm, _, hx⟩
  · simp [Value.cells] at hcs
    obtain ⟨rfl, rfl, rfl⟩ := hcs
    exact ⟨none, 0, [], rfl, RowIn.nil (Nat.zero_le _)⟩
  · simp [Value.cells] at hcs
    obtain ⟨rfl, rfl, rfl⟩ := hcs
    have hlm : n ≤ m := by rw [hmm]; split <;> omega
    rw [hct] at hx
    obtain ⟨f, hf'⟩ := Deep.choose_lt (n := n) (p := fun i (k : K32) => w.cells? base (a.add (i * 32)) 32 = some (encK k)) (fun i hi => by
      obtain ⟨cs', h1, h2⟩ := hx i (by omega)
      obtain ⟨_, hlen, _⟩ := World.cells?_some h1
      obtain ⟨k, rfl⟩ := trod_key hk he hc hlen h2
      exact ⟨k, h1⟩)
    have hrow : ∀ j u, (cellsOf encK ((List.range n).map f))[j]? = some u → w.cell? (a.add j) = some u := by
      intro j u hj
      have hj' := (List.getElem?_eq_some_iff.1 hj).1
      rw [cellsOf_len encK_len, List.length_map, List.length_range] at hj'
      have hq : j / 32 < n := (Nat.div_lt_iff_lt_mul (by omega)).2 hj'
      have e : j = j / 32 * 32 + j % 32 := (Nat.div_add_mod' j 32).symm
      rw [e, cellsOf_at encK_len _ (j / 32) (by simpa using hq) (j % 32) (Nat.mod_lt _ (by omega))] at hj
      simp only [List.getElem_map, List.getElem_range] at hj
      have h3 := (World.cells?_some (hf' (j / 32) hq)).2.2 (j % 32) (Nat.mod_lt _ (by omega))
      rw [Deep.add_add, ← e] at h3
      rw [h3]
      simpa using hj
    refine ⟨some a, cap, (List.range n).map f, by simp, by simpa using hl, hm, fun hn => ?_⟩
    have hn0 : 0 < n := by
      rcases Nat.eq_zero_or_pos n with h0 | h0
      · subst h0; simp at hn
      · exact h0
    have hz : 0 < (cellsOf encK ((List.range n).map f)).length := by rw [cellsOf_len encK_len]; simp; omega
    have h0 := hrow 0 _ (List.getElem?_eq_getElem hz)
    obtain ⟨b, off, spot⟩ := a
    have hspot : spot = none := by simpa [Addr.add] using World.cell?_spot h0
    subst hspot
    refine ⟨b, off, rfl, ?_, fun j u hj => ?_⟩
    · have := World.block_lt_of_cell? w _ h0
      rwa [block_of_add] at this
    · have hadd : (⟨b, off, none⟩ : Addr).add j = ⟨b, off + j, none⟩ := by unfold Addr.add; split <;> simp_all
      rw [← hadd]; exact hrow j u hj
end
end Go.Proofs.Ytgcopgnkfokphaa
