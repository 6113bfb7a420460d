/- What the types of a transaction are in this program; a point as a parameter. -/
import Derived.Test.YthepiegaoekccaaTxAllA
import Derived.Test.YthepiegaoekccaaRows
namespace Go.Proofs.Ythepiegaoekccaa
open Go.RowKit Go.ChangeShapes Go.WideShapes
noncomputable def txTy : TxTy Try.prog 30 where
  u32 := 23
  pts := 24
  outs := 25
  key := 27
  ks := 28
  i64 := 2
  pt := 64
  out := 66
  e := 5
  f0 := (Try.prog.fieldsOf 30)[0]!
  f1 := (Try.prog.fieldsOf 30)[1]!
  f2 := (Try.prog.fieldsOf 30)[2]!
  f3 := (Try.prog.fieldsOf 30)[3]!
  f4 := (Try.prog.fieldsOf 30)[4]!
  f5 := (Try.prog.fieldsOf 30)[5]!
  f6 := (Try.prog.fieldsOf 30)[6]!
  p0 := (Try.prog.fieldsOf 64)[0]!
  p1 := (Try.prog.fieldsOf 64)[1]!
  q0 := (Try.prog.fieldsOf 66)[0]!
  q1 := (Try.prog.fieldsOf 66)[1]!
  hs := by kernel_rfl
  ho := by kernel_rfl
  hf := by kernel_rfl
  hC := by kernel_rfl
  hu32 := Try.underlying23
  cu32 := by kernel_rfl
  hi64 := Try.underlying2
  ci64 := by kernel_rfl
  he := Try.underlying5
  ce := by kernel_rfl
  hkey := Try.underlying27
  ckey := by kernel_rfl
  hks := Try.underlying28
  cks := by kernel_rfl
  hpts := Try.underlying24
  cpts := by kernel_rfl
  houts := Try.underlying25
  couts := by kernel_rfl
  hpt := by kernel_rfl
  opt := by kernel_rfl
  fpt := by kernel_rfl
  cpt := by kernel_rfl
  hout := by kernel_rfl
  oout := by kernel_rfl
  fout := by kernel_rfl
  cout := by kernel_rfl
section
variable {H : Type} {enc : TypeId × Value → H} {w : World} {base : Nat} {spare : Nat → Bool} {held : Bool}
set_option maxRecDepth 100000 in
theorem open_tx {r : Reach} {b0 : Nat} {v : Value} {d : DataW H} {ps : List MemPlace} (hval : Value.okWide Try.prog w r b0 30 v) (hd : DataW.Trod enc Try.prog w base spare held 30 v d ps) :
    ∃ a : TxA, v = .agg a.cells.toArray ∧ a.In w w.heap.size := by
  obtain ⟨T, Ai, ci, Ao, co, An, cn, At, ct, h1, h2⟩ := txTy.open_ hval hd
  exact ⟨⟨T, Ai, ci, Ao, co, An, cn, At, ct⟩, h1, h2⟩
set_option maxRecDepth 100000 in
theorem open_pt {r : Reach} {b0 : Nat} {v : Value} {d : DataW H} {ps : List MemPlace} (hval : Value.okWide Try.prog w r b0 64 v) (hd : DataW.Trod enc Try.prog w base spare held 64 v d ps) :
    ∃ p : K32 × IntV .u32, v = .agg (encKI .u32 p).toArray := by
  obtain ⟨cs, rfl, _⟩ := okWide_struct txTy.hpt hval
  obtain ⟨fuel, hf⟩ := hd
  have hf' : DataW.trod enc Try.prog w base spare held fuel 64 cs.toList = some (d, ps) := by simpa [Value.cells] using hf
  obtain ⟨_, n, _, _, hl, _, _⟩ := DataW.trod_struct txTy.hpt hf'
  rw [txTy.cpt] at hl
  obtain ⟨p, hp⟩ := trod_KI (q := .u32) txTy.hpt (by kernel_rfl) (by kernel_rfl) (by kernel_rfl) (by kernel_rfl) txTy.hkey txTy.he txTy.ce txTy.ckey txTy.hu32 txTy.cu32 txTy.cpt _ _ _ hl hf'
  refine ⟨p, ?_⟩
  rw [← hp]
end
end Go.Proofs.Ythepiegaoekccaa
