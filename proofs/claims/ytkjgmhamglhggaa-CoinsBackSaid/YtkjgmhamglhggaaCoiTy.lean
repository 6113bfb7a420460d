/- Coins, transactions, numbers in slices as parameters. -/
import Derived.Test.YtkjgmhamglhggaaCoiY
import Derived.Test.YtkjgmhamglhggaaTxTy
namespace Go.Proofs.Ytkjgmhamglhggaa
open Go.RowKit Go.ChangeShapes Go.WideShapes
theorem crowIn_map {α β : Type} {enc : β → List Value} {k : Nat} {w : World} {B c : Nat} {A : Option Addr} {l : List α} (f : α → β) (h : RowIn (fun a => enc (f a)) k w B A c l) : RowIn enc k w B A c (l.map f) := by
  have hc : cellsOf enc (l.map f) = cellsOf (fun a => enc (f a)) l := by unfold cellsOf; rw [List.flatMap_map]
  refine ⟨by rw [List.length_map]; exact h.le, h.max, fun hn => ?_⟩
  rw [hc]
  exact h.cells (fun q => hn (by rw [q]; rfl))
section
variable {H : Type} {enc : TypeId × Value → H} {w : World} {base : Nat} {spare : Nat → Bool} {held : Bool}
theorem trod_coin {f0 f1 f2 f3 : Field} (hs : Try.prog.underlying 49 = some (.struct #[f0, f1, f2, f3]))
    (ho : [f0.offset, f1.offset, f2.offset, f3.offset] = [0, 33, 66, 67]) (hf : [f0.type, f1.type, f2.type, f3.type] = [32, 47, 23, 4])
    (fuel : Nat) (cs : List Value) (x : DataW H × List MemPlace) (_ : cs.length = 68) (h : DataW.trod enc Try.prog w base spare held fuel 49 cs = some x) :
    ∃ b : CoinV, cs = encC b := by
  obtain ⟨xs, n, _, _, hl, hxl, hi⟩ := DataW.trod_struct hs h
  have hC : Try.prog.cellsOf 49 = 68 := by kernel_rfl
  rw [hC] at hl
  simp only [List.cons.injEq, and_true] at ho hf
  obtain ⟨o0, o1, o2, o3⟩ := ho
  obtain ⟨t0, t1, t2, t3⟩ := hf
  have get : ∀ i, i < 4 → ∃ y, xs[i]? = some y := fun i h7 => ⟨_, List.getElem?_eq_getElem (by rw [hxl]; exact h7)⟩
  obtain ⟨y0, e0⟩ := get 0 (by omega)
  obtain ⟨y1, e1⟩ := get 1 (by omega)
  obtain ⟨y2, e2⟩ := get 2 (by omega)
  obtain ⟨y3, e3⟩ := get 3 (by omega)
  have h0 := (hi 0 f0 rfl).trans e0
  have h1 := (hi 1 f1 rfl).trans e1
  have h2 := (hi 2 f2 rfl).trans e2
  have h3 := (hi 3 f3 rfl).trans e3
  clear hi get e0 e1 e2 e3
  have c0 : Try.prog.cellsOf 32 = 33 := by kernel_rfl
  have c1 : Try.prog.cellsOf 47 = 33 := by kernel_rfl
  have c2 : Try.prog.cellsOf 23 = 1 := by kernel_rfl
  have c3 : Try.prog.cellsOf 4 = 1 := by kernel_rfl
  rw [o0, t0, c0] at h0
  rw [o1, t1, c1] at h1
  rw [o2, t2, c2] at h2
  rw [o3, t3, c3] at h3
  obtain ⟨p, hp⟩ := trod_KI (q := .u32) txTy.hpt (by kernel_rfl) (by kernel_rfl) (by kernel_rfl) (by kernel_rfl) txTy.hkey txTy.he txTy.ce txTy.ckey txTy.hu32 txTy.cu32 txTy.cpt _ _ _ (cut_len (by omega)) h0
  obtain ⟨o, ho'⟩ := trod_IK (q := .i64) txTy.hout (by kernel_rfl) (by kernel_rfl) (by kernel_rfl) (by kernel_rfl) txTy.hkey txTy.he txTy.ce txTy.ckey txTy.hi64 txTy.ci64 txTy.cout _ _ _ (cut_len (by omega)) h1
  obtain ⟨z, hz⟩ := trod_intV txTy.hu32 h2
  obtain ⟨b, hb, _⟩ := DataW.trod_bool Try.underlying4 h3
  refine ⟨⟨p, o, z, b⟩, ?_⟩
  have hj : cs = cut cs 0 33 ++ (cut cs 33 33 ++ (cut cs 66 1 ++ cut cs 67 1)) := by
    rw [← cut_join, ← cut_join, ← cut_join, cut_all _ _ hl]
  unfold cut at hj hp ho'
  rw [hj, hp, ho', hz, hb]
  rfl
set_option maxRecDepth 100000 in
theorem open_coins {r : Reach} {b0 : Nat} {v : Value} {d : DataW H} {ps : List MemPlace} (hval : Value.okWide Try.prog w r b0 22 v) (hd : DataW.Trod enc Try.prog w base spare held 22 v d ps) :
    ∃ A c l, v = .slice A (l : List CoinV).length c ∧ RowIn encC 68 w w.heap.size A c l := by
  have hs : Try.prog.underlying 49 = some (.struct #[(Try.prog.fieldsOf 49)[0]!, (Try.prog.fieldsOf 49)[1]!, (Try.prog.fieldsOf 49)[2]!, (Try.prog.fieldsOf 49)[3]!]) := by kernel_rfl
  obtain ⟨A, n, cap, rfl⟩ := okWide_slice Try.underlying22 hval
  obtain ⟨fuel, hf⟩ := hd
  have hf' : DataW.trod enc Try.prog w base spare held fuel 22 [.slice A n cap] = some (d, ps) := by simpa [Value.cells] using hf
  obtain ⟨A', c', l, h1, h2⟩ := trod_rows encC_len (by omega) Try.underlying22 (by kernel_rfl) (trod_coin hs (by kernel_rfl) (by kernel_rfl)) hf'
  exact ⟨A', c', l, List.head_eq_of_cons_eq h1, h2⟩
theorem trod_txsC {fuel : Nat} {cs : List Value} {x : DataW H × List MemPlace} (h : DataW.trod enc Try.prog w base spare held fuel 60 cs = some x) :
    ∃ A c l, cs = [.slice A (l : List TxA).length c] ∧ TxsC w w.heap.size A c l := by
  obtain ⟨A, c, l, h1, h2⟩ := trod_rows (en := fun a : { a : TxA // a.In w w.heap.size } => a.1.cells) (fun a => TxA.len a.1) (by omega) Try.underlying60 txTy.hC (fun f cs y _ hy => by
    obtain ⟨T, Ai, ci, Ao, co, An, cn, At, ct, e1, e2⟩ := txTy.trod hy
    exact ⟨⟨⟨T, Ai, ci, Ao, co, An, cn, At, ct⟩, e2⟩, e1⟩) h
  refine ⟨A, c, l.map (fun a : { a : TxA // a.In w w.heap.size } => a.1), by rw [List.length_map]; exact h1, crowIn_map (enc := TxA.cells) (fun a : { a : TxA // a.In w w.heap.size } => a.1) h2, fun t ht => ?_⟩
  obtain ⟨y, _, rfl⟩ := List.mem_map.1 ht
  exact y.2
set_option maxRecDepth 100000 in
theorem open_txsC {r : Reach} {b0 : Nat} {v : Value} {d : DataW H} {ps : List MemPlace} (hval : Value.okWide Try.prog w r b0 60 v) (hd : DataW.Trod enc Try.prog w base spare held 60 v d ps) :
    ∃ A c l, v = .slice A (l : List TxA).length c ∧ TxsC w w.heap.size A c l := by
  obtain ⟨A, n, cap, rfl⟩ := okWide_slice Try.underlying60 hval
  obtain ⟨fuel, hf⟩ := hd
  have hf' : DataW.trod enc Try.prog w base spare held fuel 60 [.slice A n cap] = some (d, ps) := by simpa [Value.cells] using hf
  obtain ⟨A', c', l, h1, h2⟩ := trod_txsC hf'
  exact ⟨A', c', l, List.head_eq_of_cons_eq h1, h2⟩
end
section
variable {H : Type} {enc : TypeId × Value → H} {P : Program} {w : World} {base : Nat} {spare : Nat → Bool} {held : Bool} {t e : TypeId} {v : Value} {d : DataW H} {ps : List MemPlace}
theorem open_nums {q : IntKind} {r : Reach} {b0 : Nat} (ht : P.underlying t = some (.slice e)) (he : P.underlying e = some (.int q)) (hc : P.cellsOf e = 1) (hval : Value.okWide P w r b0 t v) (hd : DataW.Trod enc P w base spare held t v d ps) :
    ∃ A c l, v = .slice A (l : List (IntV q)).length c ∧ RowIn (enc1 q) 1 w w.heap.size A c l := by
  obtain ⟨A, n, cap, rfl⟩ := okWide_slice ht hval
  obtain ⟨fuel, hf⟩ := hd
  have hf' : DataW.trod enc P w base spare held fuel t [.slice A n cap] = some (d, ps) := by simpa [Value.cells] using hf
  obtain ⟨A', c', l, h1, h2⟩ := trod_rows (enc1_len q) (by omega) ht hc (fun f cs x _ hx => trod_intV he hx) hf'
  exact ⟨A', c', l, List.head_eq_of_cons_eq h1, h2⟩
end
end Go.Proofs.Ytkjgmhamglhggaa
