/- A block as a parameter. -/
import Derived.Test.YthpnmmilioonhaaDoorBkW
import Derived.Test.YthpnmmilioonhaaDoorTxTy
namespace Go.Proofs.YthpnmmilioonhaaDoor
open Go.RowKit Go.ChangeShapes Go.WideShapes
theorem rowIn_map {α β : Type} {enc : β → List Value} {k : Nat} {w : World} {B c : Nat} {A : Option Addr} {l : List α} (f : α → β) (h : RowIn (fun a => enc (f a)) k w B A c l) : RowIn enc k w B A c (l.map f) := by
  have hc : cellsOf enc (l.map f) = cellsOf (fun a => enc (f a)) l := by unfold cellsOf; rw [List.flatMap_map]
  refine ⟨by rw [List.length_map]; exact h.le, h.max, fun hn => ?_⟩
  rw [hc]
  exact h.cells (fun q => hn (by rw [q]; rfl))
section
variable {H : Type} {enc : TypeId × Value → H} {w : World} {base : Nat} {spare : Nat → Bool} {held : Bool}
theorem trod_txs {fuel : Nat} {cs : List Value} {x : DataW H × List MemPlace} (h : DataW.trod enc Tryd.prog w base spare held fuel 25 cs = some x) :
    ∃ A c l, cs = [.slice A (l : List TxA).length c] ∧ TxsIn w w.heap.size A c l := by
  obtain ⟨A, c, l, h1, h2⟩ := trod_rows (en := fun a : { a : TxA // a.In w w.heap.size } => a.1.cells) (fun a => TxA.len a.1) (by omega) Tryd.underlying25 txTy.hC (fun f cs y _ hy => by
    obtain ⟨T, Ai, ci, Ao, co, An, cn, At, ct, e1, e2⟩ := txTy.trod hy
    exact ⟨⟨⟨T, Ai, ci, Ao, co, An, cn, At, ct⟩, e2⟩, e1⟩) h
  refine ⟨A, c, l.map (fun a : { a : TxA // a.In w w.heap.size } => a.1), by rw [List.length_map]; exact h1, rowIn_map (enc := TxA.cells) (fun a : { a : TxA // a.In w w.heap.size } => a.1) h2, fun t ht => ?_⟩
  obtain ⟨y, _, rfl⟩ := List.mem_map.1 ht
  exact y.2
theorem trod_blk {f0 f1 f2 f3 : Field} (hs : Tryd.prog.underlying 27 = some (.struct #[f0, f1, f2, f3]))
    (ho : [f0.offset, f1.offset, f2.offset, f3.offset] = [0, 32, 64, 65]) (hf : [f0.type, f1.type, f2.type, f3.type] = [23, 23, 24, 25])
    {fuel : Nat} {cs : List Value} {x : DataW H × List MemPlace} (h : DataW.trod enc Tryd.prog w base spare held fuel 27 cs = some x) :
    ∃ b : BkA, cs = b.cells ∧ b.In w w.heap.size := by
  obtain ⟨xs, n, _, _, hl, hxl, hi⟩ := DataW.trod_struct hs h
  have hC : Tryd.prog.cellsOf 27 = 66 := by kernel_rfl
  rw [hC] at hl
  simp only [List.cons.injEq, and_true] at ho hf
  obtain ⟨o0, o1, o2, o3⟩ := ho
  obtain ⟨t0, t1, t2, t3⟩ := hf
  have get : ∀ i, i < 4 → ∃ y, xs[i]? = some y := fun i h7 => ⟨_, List.getElem?_eq_getElem (by rw [hxl]; exact h7)⟩
  obtain ⟨y0, e0⟩ := get 0 (by omega)
  obtain ⟨y1, e1⟩ := get 1 (by omega)
  obtain ⟨y2, e2⟩ := get 2 (by omega)
  obtain ⟨y3, e3⟩ := get 3 (by omega)
  have h0 := (hi 0 f0 rfl).trans e0
  have h1 := (hi 1 f1 rfl).trans e1
  have h2 := (hi 2 f2 rfl).trans e2
  have h3 := (hi 3 f3 rfl).trans e3
  clear hi get e0 e1 e2 e3
  have c0 : Tryd.prog.cellsOf 23 = 32 := by kernel_rfl
  have c2 : Tryd.prog.cellsOf 24 = 1 := by kernel_rfl
  have c3 : Tryd.prog.cellsOf 25 = 1 := by kernel_rfl
  rw [o0, t0, c0] at h0
  rw [o1, t1, c0] at h1
  rw [o2, t2, c2] at h2
  rw [o3, t3, c3] at h3
  obtain ⟨k0, hk0⟩ := trod_key txTy.hkey txTy.he txTy.ce (cut_len (by omega)) h0
  obtain ⟨k1, hk1⟩ := trod_key txTy.hkey txTy.he txTy.ce (cut_len (by omega)) h1
  obtain ⟨z, hz⟩ := trod_intV txTy.hu32 h2
  obtain ⟨A, c, l, hA, rA⟩ := trod_txs h3
  refine ⟨⟨k0, k1, z, l, A, c⟩, ?_, rA⟩
  have hj : cs = cut cs 0 32 ++ (cut cs 32 32 ++ (cut cs 64 1 ++ cut cs 65 1)) := by
    rw [← cut_join, ← cut_join, ← cut_join, cut_all _ _ hl]
  unfold cut at hj hk0 hk1
  rw [hj, hk0, hk1, hz, hA]
  rfl
set_option maxRecDepth 100000 in
theorem open_blk {r : Reach} {b0 : Nat} {v : Value} {d : DataW H} {ps : List MemPlace} (hval : Value.okWide Tryd.prog w r b0 27 v) (hd : DataW.Trod enc Tryd.prog w base spare held 27 v d ps) :
    ∃ b : BkA, v = .agg b.cells.toArray ∧ b.In w w.heap.size := by
  have hs : Tryd.prog.underlying 27 = some (.struct #[(Tryd.prog.fieldsOf 27)[0]!, (Tryd.prog.fieldsOf 27)[1]!, (Tryd.prog.fieldsOf 27)[2]!, (Tryd.prog.fieldsOf 27)[3]!]) := by kernel_rfl
  obtain ⟨cs, rfl, _⟩ := okWide_struct hs hval
  obtain ⟨fuel, hf⟩ := hd
  have hf' : DataW.trod enc Tryd.prog w base spare held fuel 27 cs.toList = some (d, ps) := by simpa [Value.cells] using hf
  obtain ⟨b, h1, h2⟩ := trod_blk hs (by kernel_rfl) (by kernel_rfl) hf'
  exact ⟨b, by rw [← h1], h2⟩
end
end Go.Proofs.YthpnmmilioonhaaDoor
