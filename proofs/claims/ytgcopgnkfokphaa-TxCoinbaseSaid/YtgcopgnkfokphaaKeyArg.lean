/- A parameter that is an array of bytes by value: opened to its bytes, and read the same in every world. Over any program. -/
import Derived.Test.YtgcopgnkfokphaaBytes
import Derived.Test.YtgcopgnkfokphaaMem
import Derived.OpenShut
namespace Go.Proofs.Ytgcopgnkfokphaa
open Go.RowKit Go.ChangeShapes
section
variable {H : Type} {enc : TypeId × Value → H} {P : Program} {w w' : World} {base : Nat} {spare : Nat → Bool} {held : Bool} {t e : TypeId} {n : Nat} {v : Value} {d : DataW H} {ps : List MemPlace}
theorem trod_int_world {base' : Nat} {spare' : Nat → Bool} {held' : Bool} {k : IntKind} (he : P.underlying e = some (.int k)) (m : Nat) (cs : List Value) : DataW.trod enc P w' base' spare' held' m e cs = DataW.trod enc P w base spare held m e cs := by
  cases m with
  | zero => rfl
  | succ m =>
    unfold DataW.trod
    rw [he]
    rcases cs with _ | ⟨v, _ | ⟨v2, r⟩⟩
    · rfl
    · cases v <;> rfl
    · cases v <;> rfl
theorem open_bytes {r : Reach} {b0 : Nat} (ht : P.underlying t = some (.array n e)) (he : P.underlying e = some (.int .u8)) (hc : P.cellsOf e = 1) (hct : P.cellsOf t = n)
    (hval : Value.okWide P w r b0 t v) (hd : DataW.Trod enc P w base spare held t v d ps) :
    ∃ l : List UInt8, v = .agg (bytesA l) ∧ ps = [] ∧ l.length = n ∧ ∀ {w' : World} {base' : Nat} {spare' : Nat → Bool} {held' : Bool}, DataW.Trod enc P w' base' spare' held' t (.agg (bytesA l)) d [] := by
  simp only [Value.okWide, ht] at hval
  obtain ⟨cs, rfl, hs, _⟩ := hval
  obtain ⟨fuel, hf⟩ := hd
  obtain ⟨xs, m, rfl, hx, hl, hxl, hi⟩ := DataW.trod_array ht hf
  have hcs : cs.size = n := by rw [hs, hct]
  have hel : ∀ i (h : i < n), ∃ z : Int, cs[i]? = some (.int .u8 z) ∧ 0 ≤ z ∧ z < 256 ∧ ∃ x, xs[i]? = some (x, []) := by
    intro i h
    have h1 := hi i h
    rw [hc, Nat.mul_one, List.getElem?_eq_getElem (by omega)] at h1
    obtain ⟨z, e1, e2, e3⟩ := DataW.trod_int he h1
    have h2 : (cs.toList.drop i)[0]? = some (.int .u8 z) := by
      have := congrArg (fun q : List Value => q[0]?) e1
      simpa [List.getElem?_take, Value.cells] using this
    refine ⟨z, by simpa using h2, ?_, ?_, ?_⟩
    · simp [Lit.wf, IntKind.min, IntKind.max, IntKind.signed, IntKind.bits] at e3; omega
    · simp [Lit.wf, IntKind.min, IntKind.max, IntKind.signed, IntKind.bits] at e3; omega
    · exact ⟨_, by rw [List.getElem?_eq_getElem (by omega), e2]⟩
  have hb : cs = bytesA (cs.toList.map fun v => match v with | .int _ z => UInt8.ofNat z.toNat | _ => 0) := by
    apply Array.ext_getElem?
    intro i
    by_cases h : i < n
    · obtain ⟨z, e1, z0, z1, _⟩ := hel i h
      rw [e1]
      simp [bytesA, e1]
      omega
    · rw [Array.getElem?_eq_none (by omega), Array.getElem?_eq_none (by simp [bytesA]; omega)]
  refine ⟨_, congrArg Value.agg hb, ?_, by simp [hcs], ?_⟩
  · have := congrArg (·.2) hx
    simp only at this
    rw [this, List.flatMap_eq_nil_iff]
    intro x hxm
    obtain ⟨i, hi1, rfl⟩ := List.getElem_of_mem hxm
    obtain ⟨z, _, _, _, y, hy⟩ := hel i (by omega)
    rw [List.getElem?_eq_getElem hi1] at hy
    rw [Option.some.inj hy]
  · intro w' base' spare' held'
    rw [← hb]
    refine ⟨m + 1, ?_⟩
    have hps : ps = [] := by
      have := congrArg (·.2) hx
      simp only at this
      rw [this, List.flatMap_eq_nil_iff]
      intro x hxm
      obtain ⟨i, hi1, rfl⟩ := List.getElem_of_mem hxm
      obtain ⟨z, _, _, _, y, hy⟩ := hel i (by omega)
      rw [List.getElem?_eq_getElem hi1] at hy
      rw [Option.some.inj hy]
    rw [hps] at hf
    rw [← hf]
    unfold DataW.trod
    rw [ht]
    simp only [trod_int_world (w := w) (w' := w') (base := base) (spare := spare) (held := held) (base' := base') (spare' := spare') (held' := held') he]
end
end Go.Proofs.Ytgcopgnkfokphaa
