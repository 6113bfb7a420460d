/- What the types of a transaction are in this program; a point as a parameter. -/
import Derived.Test.YthpnmmilioonhaaDoorTxAllA
import Derived.Test.YthpnmmilioonhaaDoorRows
namespace Go.Proofs.YthpnmmilioonhaaDoor
open Go.RowKit Go.ChangeShapes Go.WideShapes
noncomputable def txTy : TxTy Tryd.prog 32 where
  u32 := 24
  pts := 28
  outs := 29
  key := 23
  ks := 30
  i64 := 2
  pt := 88
  out := 90
  e := 5
  f0 := (Tryd.prog.fieldsOf 32)[0]!
  f1 := (Tryd.prog.fieldsOf 32)[1]!
  f2 := (Tryd.prog.fieldsOf 32)[2]!
  f3 := (Tryd.prog.fieldsOf 32)[3]!
  f4 := (Tryd.prog.fieldsOf 32)[4]!
  f5 := (Tryd.prog.fieldsOf 32)[5]!
  f6 := (Tryd.prog.fieldsOf 32)[6]!
  p0 := (Tryd.prog.fieldsOf 88)[0]!
  p1 := (Tryd.prog.fieldsOf 88)[1]!
  q0 := (Tryd.prog.fieldsOf 90)[0]!
  q1 := (Tryd.prog.fieldsOf 90)[1]!
  hs := by kernel_rfl
  ho := by kernel_rfl
  hf := by kernel_rfl
  hC := by kernel_rfl
  hu32 := Tryd.underlying24
  cu32 := by kernel_rfl
  hi64 := Tryd.underlying2
  ci64 := by kernel_rfl
  he := Tryd.underlying5
  ce := by kernel_rfl
  hkey := Tryd.underlying23
  ckey := by kernel_rfl
  hks := Tryd.underlying30
  cks := by kernel_rfl
  hpts := Tryd.underlying28
  cpts := by kernel_rfl
  houts := Tryd.underlying29
  couts := by kernel_rfl
  hpt := by kernel_rfl
  opt := by kernel_rfl
  fpt := by kernel_rfl
  cpt := by kernel_rfl
  hout := by kernel_rfl
  oout := by kernel_rfl
  fout := by kernel_rfl
  cout := by kernel_rfl
section
variable {H : Type} {enc : TypeId × Value → H} {w : World} {base : Nat} {spare : Nat → Bool} {held : Bool}
set_option maxRecDepth 100000 in
theorem open_tx {r : Reach} {b0 : Nat} {v : Value} {d : DataW H} {ps : List MemPlace} (hval : Value.okWide Tryd.prog w r b0 32 v) (hd : DataW.Trod enc Tryd.prog w base spare held 32 v d ps) :
    ∃ a : TxA, v = .agg a.cells.toArray ∧ a.In w w.heap.size := by
  obtain ⟨T, Ai, ci, Ao, co, An, cn, At, ct, h1, h2⟩ := txTy.open_ hval hd
  exact ⟨⟨T, Ai, ci, Ao, co, An, cn, At, ct⟩, h1, h2⟩
set_option maxRecDepth 100000 in
theorem open_pt {r : Reach} {b0 : Nat} {v : Value} {d : DataW H} {ps : List MemPlace} (hval : Value.okWide Tryd.prog w r b0 88 v) (hd : DataW.Trod enc Tryd.prog w base spare held 88 v d ps) :
    ∃ p : K32 × IntV .u32, v = .agg (encKI .u32 p).toArray := by
  obtain ⟨cs, rfl, _⟩ := okWide_struct txTy.hpt hval
  obtain ⟨fuel, hf⟩ := hd
  have hf' : DataW.trod enc Tryd.prog w base spare held fuel 88 cs.toList = some (d, ps) := by simpa [Value.cells] using hf
  obtain ⟨_, n, _, _, hl, _, _⟩ := DataW.trod_struct txTy.hpt hf'
  rw [txTy.cpt] at hl
  obtain ⟨p, hp⟩ := trod_KI (q := .u32) txTy.hpt (by kernel_rfl) (by kernel_rfl) (by kernel_rfl) (by kernel_rfl) txTy.hkey txTy.he txTy.ce txTy.ckey txTy.hu32 txTy.cu32 txTy.cpt _ _ _ hl hf'
  refine ⟨p, ?_⟩
  rw [← hp]
end
end Go.Proofs.YthpnmmilioonhaaDoor
