/- A transaction that came in has no more things than memory has room for. -/
import Derived.Test.YthepiegaoekccaaTxTy
import Derived.SizedLaws
namespace Go.Proofs.Ythepiegaoekccaa
open Go.RowKit Go.ChangeShapes Go.WideShapes
section
variable {H : Type} {enc : TypeId × Value → H} {P : Program} {w : World} {base : Nat} {spare : Nat → Bool} {held : Bool}
theorem slice_small {t e : TypeId} {fuel n c : Nat} {A : Option Addr} {x : DataW H × List MemPlace} (ht : P.underlying t = some (.slice e)) (hb : 1 ≤ P.bytesOf e) (h : DataW.trod enc P w base spare held fuel t [.slice A n c] = some x)
    (hw : ∀ m ∈ x.1.weights P t, m ≤ reachBytes) : n ≤ reachBytes := by
  rcases Deep.open_slice ht h with ⟨hcs, _⟩ | ⟨a, len, cap, m, n', D, Pl, hcs, _, hl, hm, hmm, hx, _⟩
  · simp only [List.cons.injEq, Value.slice.injEq, and_true] at hcs
    rw [hcs.2.1]
    exact Nat.zero_le _
  · simp only [List.cons.injEq, Value.slice.injEq, and_true] at hcs
    rw [hcs.2.1]
    rw [hx] at hw
    have h1 := hw ((len + (m - len)) * P.bytesOf e) (by simp [DataW.weights, ht])
    have h2 : (len + (m - len)) * 1 ≤ (len + (m - len)) * P.bytesOf e := Nat.mul_le_mul_left _ hb
    omega
theorem TxTy.small {t : TypeId} (Y : TxTy P t) (hb1 : 1 ≤ P.bytesOf Y.pt) (hb2 : 1 ≤ P.bytesOf Y.key) {v : Value} {d : DataW H} {ps : List MemPlace} {T : TxV} {Ai Ao An At : Option Addr} {ci co cn ct : Nat} (hv : v = .agg (txCells T Ai ci Ao co An cn At ct).toArray) (hd : DataW.Trod enc P w base spare held t v d ps)
    (hw : ∀ m ∈ d.weights P t, m ≤ reachBytes) : T.ins.length + T.nulls.length + T.notes.length ≤ 4611686018427387904 := by
  subst hv
  obtain ⟨fuel, hf⟩ := hd
  have hf' : DataW.trod enc P w base spare held fuel t (txCells T Ai ci Ao co An cn At ct) = some (d, ps) := by simpa [Value.cells] using hf
  obtain ⟨xs, n, _, hx, hl, hxl, hi⟩ := DataW.trod_struct Y.hs hf'
  have hd : d = .agg (xs.map (·.1)) := congrArg Prod.fst hx
  have ho := Y.ho
  have hf2 := Y.hf
  simp only [List.cons.injEq, and_true] at ho hf2
  obtain ⟨_, o1, _, _, o4, o5, _⟩ := ho
  obtain ⟨t0, t1, t2, t3, t4, t5, t6⟩ := hf2
  have get : ∀ i, i < 7 → ∃ y, xs[i]? = some y := fun i h7 => ⟨_, List.getElem?_eq_getElem (by rw [hxl]; exact h7)⟩
  obtain ⟨y1, e1⟩ := get 1 (by omega)
  obtain ⟨y4, e4⟩ := get 4 (by omega)
  obtain ⟨y5, e5⟩ := get 5 (by omega)
  have h1 := (hi 1 Y.f1 rfl).trans e1
  have h4 := (hi 4 Y.f4 rfl).trans e4
  have h5 := (hi 5 Y.f5 rfl).trans e5
  rw [o1, t1, Y.cpts] at h1
  rw [o4, t4, Y.cks] at h4
  rw [o5, t5, Y.cks] at h5
  have kl := encK_len T.anchor
  have d33 : (encK T.anchor).drop 33 = [] := List.drop_of_length_le (by rw [encK_len]; omega)
  have c1 : ((txCells T Ai ci Ao co An cn At ct).drop 1).take 1 = [.slice Ai T.ins.length ci] := rfl
  have c4 : ((txCells T Ai ci Ao co An cn At ct).drop 35).take 1 = [.slice An T.nulls.length cn] := by
    unfold txCells
    simp [kl]
  have c5 : ((txCells T Ai ci Ao co An cn At ct).drop 36).take 1 = [.slice At T.notes.length ct] := by
    unfold txCells
    simp [List.drop_append, kl, d33]
  rw [c1] at h1
  rw [c4] at h4
  rw [c5] at h5
  have mem : ∀ (j : Nat) (f : Field) (y : DataW H × List MemPlace), (#[Y.f0, Y.f1, Y.f2, Y.f3, Y.f4, Y.f5, Y.f6] : Array Field)[j]? = some f → xs[j]? = some y → ∀ m ∈ y.1.weights P f.type, m ≤ reachBytes := by
    intro j f y hj hy m hm
    refine hw m ?_
    rw [hd]
    simp only [DataW.weights, Y.hs]
    refine DataW.weights_mem_each (j := j) (t := f.type) (d := y.1) ?_ ?_ m hm
    · rw [List.getElem?_map, ← Array.getElem?_toList] at *
      rw [hj]
      rfl
    · rw [List.getElem?_map, hy]
      rfl
  have s1 := slice_small Y.hpts hb1 h1 (t1 ▸ mem 1 Y.f1 y1 rfl e1)
  have s4 := slice_small Y.hks hb2 h4 (t4 ▸ mem 4 Y.f4 y4 rfl e4)
  have s5 := slice_small Y.hks hb2 h5 (t5 ▸ mem 5 Y.f5 y5 rfl e5)
  have := reachBytes_lt
  omega
end
end Go.Proofs.Ythepiegaoekccaa
