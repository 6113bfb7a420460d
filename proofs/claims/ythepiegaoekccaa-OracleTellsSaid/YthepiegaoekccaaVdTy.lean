/- Verdicts in a slice as a parameter. -/
import Derived.Test.YthepiegaoekccaaVdA
namespace Go.Proofs.Ythepiegaoekccaa
open Go.RowKit Go.ChangeShapes Go.WideShapes
section
variable {H : Type} {enc : TypeId × Value → H} {w : World} {base : Nat} {spare : Nat → Bool} {held : Bool}
theorem trod_vd {f0 f1 f2 : Field} (hs : Try.prog.underlying 37 = some (.struct #[f0, f1, f2]))
    (ho : [f0.offset, f1.offset, f2.offset] = [0, 32, 33]) (hf : [f0.type, f1.type, f2.type] = [27, 3, 4])
    (fuel : Nat) (cs : List Value) (x : DataW H × List MemPlace) (_ : cs.length = 34) (h : DataW.trod enc Try.prog w base spare held fuel 37 cs = some x) :
    ∃ b : VdV, cs = encVd b := by
  obtain ⟨xs, n, _, _, hl, hxl, hi⟩ := DataW.trod_struct hs h
  have hC : Try.prog.cellsOf 37 = 34 := by kernel_rfl
  rw [hC] at hl
  simp only [List.cons.injEq, and_true] at ho hf
  obtain ⟨o0, o1, o2⟩ := ho
  obtain ⟨t0, t1, t2⟩ := hf
  have get : ∀ i, i < 3 → ∃ y, xs[i]? = some y := fun i h7 => ⟨_, List.getElem?_eq_getElem (by rw [hxl]; exact h7)⟩
  obtain ⟨y0, e0⟩ := get 0 (by omega)
  obtain ⟨y1, e1⟩ := get 1 (by omega)
  obtain ⟨y2, e2⟩ := get 2 (by omega)
  have h0 := (hi 0 f0 rfl).trans e0
  have h1 := (hi 1 f1 rfl).trans e1
  have h2 := (hi 2 f2 rfl).trans e2
  clear hi get e0 e1 e2
  have c0 : Try.prog.cellsOf 27 = 32 := by kernel_rfl
  have c1 : Try.prog.cellsOf 3 = 1 := by kernel_rfl
  have c2 : Try.prog.cellsOf 4 = 1 := by kernel_rfl
  rw [o0, t0, c0] at h0
  rw [o1, t1, c1] at h1
  rw [o2, t2, c2] at h2
  obtain ⟨p, hp⟩ := trod_key Try.underlying27 Try.underlying5 (by kernel_rfl) (cut_len (by omega)) h0
  obtain ⟨z, hz⟩ := trod_intV Try.underlying3 h1
  obtain ⟨b, hb, _⟩ := DataW.trod_bool Try.underlying4 h2
  refine ⟨⟨p, z, b⟩, ?_⟩
  have hj : cs = cut cs 0 32 ++ (cut cs 32 1 ++ cut cs 33 1) := by
    rw [← cut_join, ← cut_join, cut_all _ _ hl]
  unfold cut at hj hp
  rw [hj, hp, hz, hb]
  rfl
set_option maxRecDepth 100000 in
theorem open_vds {r : Reach} {b0 : Nat} {v : Value} {d : DataW H} {ps : List MemPlace} (hval : Value.okWide Try.prog w r b0 22 v) (hd : DataW.Trod enc Try.prog w base spare held 22 v d ps) :
    ∃ A c l, v = .slice A (l : List VdV).length c ∧ RowIn encVd 34 w w.heap.size A c l := by
  have hs : Try.prog.underlying 37 = some (.struct #[(Try.prog.fieldsOf 37)[0]!, (Try.prog.fieldsOf 37)[1]!, (Try.prog.fieldsOf 37)[2]!]) := by kernel_rfl
  obtain ⟨A, n, cap, rfl⟩ := okWide_slice Try.underlying22 hval
  obtain ⟨fuel, hf⟩ := hd
  have hf' : DataW.trod enc Try.prog w base spare held fuel 22 [.slice A n cap] = some (d, ps) := by simpa [Value.cells] using hf
  obtain ⟨A', c', l, h1, h2⟩ := trod_rows encVd_len (by omega) Try.underlying22 (by kernel_rfl) (trod_vd hs (by kernel_rfl) (by kernel_rfl)) hf'
  exact ⟨A', c', l, List.head_eq_of_cons_eq h1, h2⟩
end
end Go.Proofs.Ythepiegaoekccaa
