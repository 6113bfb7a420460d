/- Structs that came in: their fields' cells, one behind the other; a key, an integer among them. Over any program. -/
import Derived.Test.YtgcopgnkfokphaaRowsArg
import Derived.Test.YtgcopgnkfokphaaKeysArg
import Derived.Lib.SmallJoins
namespace Go.Proofs.Ytgcopgnkfokphaa
open Go.RowKit Go.ChangeShapes Go.WideShapes
section
variable {H : Type} {enc : TypeId × Value → H} {P : Program} {w : World} {base : Nat} {spare : Nat → Bool} {held : Bool} {t tk e : TypeId}
/-- the cells of n at place o -/
abbrev cut (cs : List Value) (o n : Nat) : List Value := (cs.drop o).take n
theorem cut_len {cs : List Value} {o n : Nat} (h : o + n ≤ cs.length) : (cut cs o n).length = n := by
  unfold cut
  rw [List.length_take, List.length_drop]; omega
theorem cut_two (cs : List Value) (a b : Nat) (h : cs.length = a + b) : cs = cut cs 0 a ++ cut cs a b := by
  unfold cut
  rw [List.drop_zero, List.take_of_length_le (l := cs.drop a) (by rw [List.length_drop]; omega), List.take_append_drop]
theorem cut_join (cs : List Value) (o a b : Nat) : cut cs o (a + b) = cut cs o a ++ cut cs (o + a) b := by
  unfold cut
  rw [List.take_add, List.drop_drop]
theorem cut_all (cs : List Value) (n : Nat) (h : cs.length = n) : cut cs 0 n = cs := by
  unfold cut
  rw [List.drop_zero, List.take_of_length_le (by omega)]
/-- an integer of kind q -/
abbrev IntV (q : IntKind) := {z : Int // (Lit.int q z).wf = true}
theorem trod_intV {q : IntKind} {fuel : Nat} {cs : List Value} {x : DataW H × List MemPlace} (ht : P.underlying t = some (.int q)) (h : DataW.trod enc P w base spare held fuel t cs = some x) : ∃ z : IntV q, cs = [.int q z.1] := by
  obtain ⟨z, h1, _, h3⟩ := DataW.trod_int ht h
  exact ⟨⟨z, h3⟩, h1⟩
/-- a struct of a key and a number -/
def encKI (q : IntKind) (x : K32 × IntV q) : List Value := encK x.1 ++ [.int q x.2.1]
def encIK (q : IntKind) (x : IntV q × K32) : List Value := .int q x.1.1 :: encK x.2
theorem encKI_len (q : IntKind) (x : K32 × IntV q) : (encKI q x).length = 33 := by unfold encKI; rw [List.length_append, encK_len]; rfl
theorem encIK_len (q : IntKind) (x : IntV q × K32) : (encIK q x).length = 33 := by unfold encIK; rw [List.length_cons, encK_len]
theorem encKI_one (q : IntKind) (x : K32 × IntV q) : ∀ v ∈ encKI q x, v.oneCell' = true := by
  intro v hv
  rcases List.mem_append.1 hv with h | h
  · exact encK_one _ v h
  · rw [List.mem_singleton.1 h]; rfl
theorem encIK_one (q : IntKind) (x : IntV q × K32) : ∀ v ∈ encIK q x, v.oneCell' = true := by
  intro v hv
  rcases List.mem_cons.1 hv with h | h
  · rw [h]; rfl
  · exact encK_one _ v h
theorem trod_KI {q : IntKind} {f0 f1 : Field} {ti : TypeId} (hs : P.underlying t = some (.struct #[f0, f1])) (o0 : f0.offset = 0) (o1 : f1.offset = 32) (t0 : f0.type = tk) (t1 : f1.type = ti)
    (hk : P.underlying tk = some (.array 32 e)) (he : P.underlying e = some (.int .u8)) (hc : P.cellsOf e = 1) (hct : P.cellsOf tk = 32) (hi : P.underlying ti = some (.int q)) (hci : P.cellsOf ti = 1) (hC : P.cellsOf t = 33)
    (fuel : Nat) (cs : List Value) (x : DataW H × List MemPlace) (_ : cs.length = 33) (h : DataW.trod enc P w base spare held fuel t cs = some x) : ∃ a, cs = encKI q a := by
  obtain ⟨y0, y1, n, _, hl, h0, h1⟩ := trod_struct2 hs h
  rw [hC] at hl
  subst t0 t1
  rw [o0, hct] at h0
  rw [o1, hci] at h1
  obtain ⟨k, hk'⟩ := trod_key hk he hc (cut_len (by omega)) h0
  obtain ⟨z, hz⟩ := trod_intV hi h1
  refine ⟨(k, z), ?_⟩
  have hj := cut_two cs 32 1 (by omega)
  unfold cut at hk' hj
  rw [hj, hk', hz]
  rfl
theorem trod_IK {q : IntKind} {f0 f1 : Field} {ti : TypeId} (hs : P.underlying t = some (.struct #[f0, f1])) (o0 : f0.offset = 0) (o1 : f1.offset = 1) (t0 : f0.type = ti) (t1 : f1.type = tk)
    (hk : P.underlying tk = some (.array 32 e)) (he : P.underlying e = some (.int .u8)) (hc : P.cellsOf e = 1) (hct : P.cellsOf tk = 32) (hi : P.underlying ti = some (.int q)) (hci : P.cellsOf ti = 1) (hC : P.cellsOf t = 33)
    (fuel : Nat) (cs : List Value) (x : DataW H × List MemPlace) (_ : cs.length = 33) (h : DataW.trod enc P w base spare held fuel t cs = some x) : ∃ a, cs = encIK q a := by
  obtain ⟨y0, y1, n, _, hl, h0, h1⟩ := trod_struct2 hs h
  rw [hC] at hl
  subst t0 t1
  rw [o0, hci] at h0
  rw [o1, hct] at h1
  obtain ⟨z, hz⟩ := trod_intV hi h0
  obtain ⟨k, hk'⟩ := trod_key hk he hc (cut_len (by omega)) h1
  refine ⟨(z, k), ?_⟩
  have hj := cut_two cs 1 32 (by omega)
  unfold cut at hk' hj
  rw [hj, hk', hz]
  rfl
/-- what a transaction's fields are: two integers, a key, four lists -/
structure TxV where
  exp : IntV .u32
  ins : List (K32 × IntV .u32)
  outs : List (IntV .i64 × K32)
  anchor : K32
  nulls : List K32
  notes : List K32
  bal : IntV .i64
/-- its cells, the lists at these places -/
def txCells (T : TxV) (Ai : Option Addr) (ci : Nat) (Ao : Option Addr) (co : Nat) (An : Option Addr) (cn : Nat) (At : Option Addr) (ct : Nat) : List Value :=
  .int .u32 T.exp.1 :: .slice Ai T.ins.length ci :: .slice Ao T.outs.length co :: (encK T.anchor ++ [.slice An T.nulls.length cn, .slice At T.notes.length ct, .int .i64 T.bal.1])
/-- the lists lie so in a world -/
structure TxIn (w : World) (B : Nat) (T : TxV) (Ai : Option Addr) (ci : Nat) (Ao : Option Addr) (co : Nat) (An : Option Addr) (cn : Nat) (At : Option Addr) (ct : Nat) : Prop where
  ins : RowIn (encKI .u32) 33 w B Ai ci T.ins
  outs : RowIn (encIK .i64) 33 w B Ao co T.outs
  nulls : RowIn encK 32 w B An cn T.nulls
  notes : RowIn encK 32 w B At ct T.notes
theorem TxIn.below {w' : World} {B : Nat} {T : TxV} {Ai Ao An At : Option Addr} {ci co cn ct : Nat} (h : TxIn w B T Ai ci Ao co An cn At ct) (hb : Below B w w') : TxIn w' B T Ai ci Ao co An cn At ct :=
  ⟨h.ins.below hb, h.outs.below hb, h.nulls.below hb, h.notes.below hb⟩
theorem TxIn.more {B B' : Nat} {T : TxV} {Ai Ao An At : Option Addr} {ci co cn ct : Nat} (h : TxIn w B T Ai ci Ao co An cn At ct) (hB : B ≤ B') : TxIn w B' T Ai ci Ao co An cn At ct :=
  ⟨h.ins.more hB, h.outs.more hB, h.nulls.more hB, h.notes.more hB⟩
/-- what the types of a transaction are -/
structure TxTy (P : Program) (t : TypeId) where
  (u32 pts outs key ks i64 pt out e : TypeId)
  (f0 f1 f2 f3 f4 f5 f6 p0 p1 q0 q1 : Field)
  hs : P.underlying t = some (.struct #[f0, f1, f2, f3, f4, f5, f6])
  ho : [f0.offset, f1.offset, f2.offset, f3.offset, f4.offset, f5.offset, f6.offset] = [0, 1, 2, 3, 35, 36, 37]
  hf : [f0.type, f1.type, f2.type, f3.type, f4.type, f5.type, f6.type] = [u32, pts, outs, key, ks, ks, i64]
  hC : P.cellsOf t = 38
  hu32 : P.underlying u32 = some (.int .u32)
  cu32 : P.cellsOf u32 = 1
  hi64 : P.underlying i64 = some (.int .i64)
  ci64 : P.cellsOf i64 = 1
  he : P.underlying e = some (.int .u8)
  ce : P.cellsOf e = 1
  hkey : P.underlying key = some (.array 32 e)
  ckey : P.cellsOf key = 32
  hks : P.underlying ks = some (.slice key)
  cks : P.cellsOf ks = 1
  hpts : P.underlying pts = some (.slice pt)
  cpts : P.cellsOf pts = 1
  houts : P.underlying outs = some (.slice out)
  couts : P.cellsOf outs = 1
  hpt : P.underlying pt = some (.struct #[p0, p1])
  opt : [p0.offset, p1.offset] = [0, 32]
  fpt : [p0.type, p1.type] = [key, u32]
  cpt : P.cellsOf pt = 33
  hout : P.underlying out = some (.struct #[q0, q1])
  oout : [q0.offset, q1.offset] = [0, 1]
  fout : [q0.type, q1.type] = [i64, key]
  cout : P.cellsOf out = 33
theorem TxTy.trod (Y : TxTy P t) {fuel : Nat} {cs : List Value} {x : DataW H × List MemPlace} (h : DataW.trod enc P w base spare held fuel t cs = some x) :
    ∃ T Ai ci Ao co An cn At ct, cs = txCells T Ai ci Ao co An cn At ct ∧ TxIn w w.heap.size T Ai ci Ao co An cn At ct := by
  obtain ⟨xs, n, _, _, hl, hxl, hi⟩ := DataW.trod_struct Y.hs h
  rw [Y.hC] at hl
  have ho := Y.ho
  have hf := Y.hf
  simp only [List.cons.injEq, and_true] at ho hf
  obtain ⟨o0, o1, o2, o3, o4, o5, o6⟩ := ho
  obtain ⟨t0, t1, t2, t3, t4, t5, t6⟩ := hf
  have get : ∀ i, i < 7 → ∃ y, xs[i]? = some y := fun i h7 => ⟨_, List.getElem?_eq_getElem (by rw [hxl]; exact h7)⟩
  obtain ⟨y0, e0⟩ := get 0 (by omega)
  obtain ⟨y1, e1⟩ := get 1 (by omega)
  obtain ⟨y2, e2⟩ := get 2 (by omega)
  obtain ⟨y3, e3⟩ := get 3 (by omega)
  obtain ⟨y4, e4⟩ := get 4 (by omega)
  obtain ⟨y5, e5⟩ := get 5 (by omega)
  obtain ⟨y6, e6⟩ := get 6 (by omega)
  have h0 := (hi 0 Y.f0 rfl).trans e0
  have h1 := (hi 1 Y.f1 rfl).trans e1
  have h2 := (hi 2 Y.f2 rfl).trans e2
  have h3 := (hi 3 Y.f3 rfl).trans e3
  have h4 := (hi 4 Y.f4 rfl).trans e4
  have h5 := (hi 5 Y.f5 rfl).trans e5
  have h6 := (hi 6 Y.f6 rfl).trans e6
  clear hi get e0 e1 e2 e3 e4 e5 e6
  rw [o0, t0, Y.cu32] at h0
  rw [o1, t1, Y.cpts] at h1
  rw [o2, t2, Y.couts] at h2
  rw [o3, t3, Y.ckey] at h3
  rw [o4, t4, Y.cks] at h4
  rw [o5, t5, Y.cks] at h5
  rw [o6, t6, Y.ci64] at h6
  have opt := Y.opt
  have fpt := Y.fpt
  have oout := Y.oout
  have fout := Y.fout
  simp only [List.cons.injEq, and_true] at opt fpt oout fout
  obtain ⟨zx, hzx⟩ := trod_intV Y.hu32 h0
  obtain ⟨Ai, ci, li, hi, ri⟩ := trod_rows (encKI_len .u32) (by omega) Y.hpts Y.cpt (trod_KI Y.hpt opt.1 opt.2 fpt.1 fpt.2 Y.hkey Y.he Y.ce Y.ckey Y.hu32 Y.cu32 Y.cpt) h1
  obtain ⟨Ao, co, lo, ho, ro⟩ := trod_rows (encIK_len .i64) (by omega) Y.houts Y.cout (trod_IK Y.hout oout.1 oout.2 fout.1 fout.2 Y.hkey Y.he Y.ce Y.ckey Y.hi64 Y.ci64 Y.cout) h2
  obtain ⟨ka, hka⟩ := trod_key Y.hkey Y.he Y.ce (cut_len (by omega)) h3
  obtain ⟨An, cn, ln, hn, rn⟩ := trod_rows encK_len (by omega) Y.hks Y.ckey (fun f cs x hl h => trod_key Y.hkey Y.he Y.ce hl h) h4
  obtain ⟨At, ct, lt, ht, rt⟩ := trod_rows encK_len (by omega) Y.hks Y.ckey (fun f cs x hl h => trod_key Y.hkey Y.he Y.ce hl h) h5
  obtain ⟨zb, hzb⟩ := trod_intV Y.hi64 h6
  refine ⟨⟨zx, li, lo, ka, ln, lt, zb⟩, Ai, ci, Ao, co, An, cn, At, ct, ?_, ⟨ri, ro, rn, rt⟩⟩
  have hj : cs = cut cs 0 1 ++ (cut cs 1 1 ++ (cut cs 2 1 ++ (cut cs 3 32 ++ (cut cs 35 1 ++ (cut cs 36 1 ++ cut cs 37 1))))) := by
    rw [← cut_join, ← cut_join, ← cut_join, ← cut_join, ← cut_join, ← cut_join, cut_all _ _ hl]
  unfold cut at hj hka
  rw [hj, hzx, hi, ho, hka, hn, ht, hzb]
  rfl
theorem TxTy.open_ (Y : TxTy P t) {r : Reach} {b0 : Nat} {v : Value} {d : DataW H} {ps : List MemPlace} (hval : Value.okWide P w r b0 t v) (hd : DataW.Trod enc P w base spare held t v d ps) :
    ∃ T Ai ci Ao co An cn At ct, v = .agg (txCells T Ai ci Ao co An cn At ct).toArray ∧ TxIn w w.heap.size T Ai ci Ao co An cn At ct := by
  obtain ⟨cs, rfl, _⟩ := okWide_struct Y.hs hval
  obtain ⟨fuel, hf⟩ := hd
  obtain ⟨T, Ai, ci, Ao, co, An, cn, At, ct, h1, h2⟩ := Y.trod hf
  refine ⟨T, Ai, ci, Ao, co, An, cn, At, ct, ?_, h2⟩
  rw [← h1]
  simp [Value.cells]
end
end Go.Proofs.Ytgcopgnkfokphaa
