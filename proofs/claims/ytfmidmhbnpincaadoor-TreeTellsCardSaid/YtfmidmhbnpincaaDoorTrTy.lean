/- A tree, and an array of three keys, as parameters; the walks over the project's own functions. -/
import Derived.Test.YtfmidmhbnpincaaDoorLTFull
import Derived.Test.YtfmidmhbnpincaaDoorRows
namespace Go.Proofs.YtfmidmhbnpincaaDoor
open Go.RowKit Go.ChangeShapes Go.WideShapes
section
variable {H : Type} {enc : TypeId × Value → H} {P : Program} {w : World} {base : Nat} {spare : Nat → Bool} {held : Bool} {t tk e : TypeId}
theorem trod_karr {n : Nat} {fuel : Nat} {cs : List Value} {x : DataW H × List MemPlace} (ht : P.underlying t = some (.array n tk)) (hk : P.underlying tk = some (.array 32 e)) (he : P.underlying e = some (.int .u8)) (hc : P.cellsOf e = 1) (hct : P.cellsOf tk = 32) (hC : P.cellsOf t = n * 32)
    (h : DataW.trod enc P w base spare held fuel t cs = some x) : ∃ l : List K32, l.length = n ∧ cs = cellsOf encK l := by
  obtain ⟨xs, m, rfl, hx, hl, hxl, hi⟩ := DataW.trod_array ht h
  rw [hC] at hl
  obtain ⟨f, hf⟩ := Deep.choose_lt (n := n) (p := fun i (k : K32) => (cs.drop (i * 32)).take 32 = encK k) (fun i hin => by
    have h1 := hi i hin
    rw [hct, List.getElem?_eq_getElem (by omega)] at h1
    exact trod_key hk he hc (by rw [List.length_take, List.length_drop, hl]; omega) h1)
  refine ⟨(List.range n).map f, by simp, ?_⟩
  apply List.ext_getElem?
  intro j
  by_cases hj : j < n * 32
  · have hq : j / 32 < n := (Nat.div_lt_iff_lt_mul (by omega)).2 hj
    have ej : j = j / 32 * 32 + j % 32 := (Nat.div_add_mod' j 32).symm
    have hm : j % 32 < 32 := Nat.mod_lt _ (by omega)
    rw [ej, cellsOf_at encK_len _ (j / 32) (by simpa using hq) (j % 32) hm]
    simp only [List.getElem_map, List.getElem_range]
    rw [← hf (j / 32) hq, List.getElem?_take_of_lt hm, List.getElem?_drop]
  · rw [List.getElem?_eq_none (by omega), List.getElem?_eq_none (by rw [cellsOf_len encK_len]; simp; omega)]
theorem trod_tree {f0 f1 : Field} {ti ta : TypeId} (hs : P.underlying t = some (.struct #[f0, f1])) (o0 : f0.offset = 0) (o1 : f1.offset = 1) (t0 : f0.type = ti) (t1 : f1.type = ta)
    (hi : P.underlying ti = some (.int .u32)) (hci : P.cellsOf ti = 1) (ha : P.underlying ta = some (.array 32 tk)) (hca : P.cellsOf ta = 32 * 32) (hk : P.underlying tk = some (.array 32 e)) (he : P.underlying e = some (.int .u8)) (hc : P.cellsOf e = 1) (hct : P.cellsOf tk = 32) (hC : P.cellsOf t = 1 + 1024)
    {fuel : Nat} {cs : List Value} {x : DataW H × List MemPlace} (h : DataW.trod enc P w base spare held fuel t cs = some x) : ∃ a : TrV, cs = a.cells := by
  obtain ⟨y0, y1, n, _, hl, h0, h1⟩ := trod_struct2 hs h
  rw [hC] at hl
  subst t0 t1
  rw [o0, hci] at h0
  rw [o1, hca] at h1
  obtain ⟨⟨z, hz⟩, hz2⟩ := trod_intV hi h0
  obtain ⟨l, hl32, hcs⟩ := trod_karr ha hk he hc hct hca h1
  have hzb : 0 ≤ z ∧ z < 4294967296 := by
    simp [Lit.wf, IntKind.min, IntKind.max, IntKind.signed, IntKind.bits] at hz
    omega
  refine ⟨⟨z.toNat, l, by omega, hl32⟩, ?_⟩
  have hj := cut_two cs 1 1024 hl
  unfold cut at hj
  rw [hj, hz2, show (List.drop 1 cs).take 1024 = (List.drop 1 cs).take (32 * 32) from rfl, hcs]
  unfold TrV.cells
  simp only [Int.toNat_of_nonneg hzb.1]
  rfl
end
section
variable {H : Type} {enc : TypeId × Value → H} {w : World} {base : Nat} {spare : Nat → Bool} {held : Bool}
set_option maxRecDepth 100000 in
theorem open_tree {r : Reach} {b0 : Nat} {v : Value} {d : DataW H} {ps : List MemPlace} (hval : Value.okWide Tryd.prog w r b0 27 v) (hd : DataW.Trod enc Tryd.prog w base spare held 27 v d ps) :
    ∃ a : TrV, v = .agg a.cells.toArray := by
  have hs : Tryd.prog.underlying 27 = some (.struct #[(Tryd.prog.fieldsOf 27)[0]!, (Tryd.prog.fieldsOf 27)[1]!]) := by kernel_rfl
  obtain ⟨cs, rfl, _⟩ := okWide_struct hs hval
  obtain ⟨fuel, hf⟩ := hd
  have hf' : DataW.trod enc Tryd.prog w base spare held fuel 27 cs.toList = some (d, ps) := by simpa [Value.cells] using hf
  obtain ⟨a, ha⟩ := trod_tree (ti := 22) (ta := 25) (tk := 24) (e := 5) hs (by kernel_rfl) (by kernel_rfl) (by kernel_rfl) (by kernel_rfl) Tryd.underlying22 (by kernel_rfl) Tryd.underlying25 (by kernel_rfl) Tryd.underlying24 Tryd.underlying5 (by kernel_rfl) (by kernel_rfl) (by kernel_rfl) hf'
  exact ⟨a, by rw [← ha]⟩
set_option maxRecDepth 100000 in
theorem open_three {r : Reach} {b0 : Nat} {v : Value} {d : DataW H} {ps : List MemPlace} (hval : Value.okWide Tryd.prog w r b0 51 v) (hd : DataW.Trod enc Tryd.prog w base spare held 51 v d ps) :
    ∃ a : E3, v = .agg a.cells.toArray := by
  have ht := Tryd.underlying51
  simp only [Value.okWide, ht] at hval
  obtain ⟨cs, rfl, _, _⟩ := hval
  obtain ⟨fuel, hf⟩ := hd
  have hf' : DataW.trod enc Tryd.prog w base spare held fuel 51 cs.toList = some (d, ps) := by simpa [Value.cells] using hf
  obtain ⟨l, h3, hl⟩ := trod_karr (n := 3) (tk := 24) (e := 5) ht Tryd.underlying24 Tryd.underlying5 (by kernel_rfl) (by kernel_rfl) (by kernel_rfl) hf'
  exact ⟨⟨l, h3⟩, by show _ = Value.agg (cellsOf encK l).toArray; rw [← hl]⟩
end
theorem key_of (s : List UInt8) (h : s.length = 32) : bytesA s = (encK ⟨s, h⟩).toArray := (encK_arr ⟨s, h⟩).symm
end Go.Proofs.YtfmidmhbnpincaaDoor
