/- BlockEncodes: any block's bytes, name, notes and signatures are the document's, or its error: the statement's walk. Written by genLE.py. -/
import Derived.Test.YthpnmmilioonhaaDoorBkJ
import Derived.Test.YthpnmmilioonhaaDoorBkI
import Derived.Test.YthpnmmilioonhaaDoorBkK
namespace Go.Proofs.YthpnmmilioonhaaDoor
open Go.RowKit
def IdBOk : Prop := ∀ (a : BkA) (w : World), a.In w w.heap.size → MidB a.B → Roots w → Calls Tryd.prog 9 #[.agg a.cells.toArray] w fun e w' => e = .returned (idV (idBF a.B)) ∧ Below w.heap.size w w'
def oneT (t : TxA) (A : Option Addr) (c : Nat) : BkA := ⟨zeroKey, zeroKey, toU32 0, [t], A, c⟩
theorem oneT_in {t : TxA} {A : Option Addr} {c : Nat} {w : World} {B : Nat} (h : RowIn TxA.cells 38 w B A c [t]) (ht : t.In w B) : (oneT t A c).In w B := ⟨h, fun u hu => by
  obtain rfl : u = t := List.mem_singleton.1 hu
  exact ht⟩
/-- what lies there: the block and the transaction that came in -/
structure BH2 (w0 w : World) (a : BkA) (t : TxA) : Prop where
  below : Below w0.heap.size w0 w
  k : Blk w w0.heap.size 27 a.cells.toArray
  kt : Blk w (w0.heap.size + 1) 32 t.cells.toArray
  inn : a.In w w.heap.size
  tin : t.In w w.heap.size
theorem BH2.new {w0 : World} {a : BkA} {t : TxA} (h : a.In w0 w0.heap.size) (ht : t.In w0 w0.heap.size) : BH2 w0 ((w0.alloc (.cells a.cells.toArray 27)).alloc (.cells t.cells.toArray 32)) a t := by
  have b : Below w0.heap.size w0 ((w0.alloc (.cells a.cells.toArray 27)).alloc (.cells t.cells.toArray 32)) := ((Below.refl _ _).alloc (Nat.le_refl _) _).alloc (by simp) _
  have k2 := Blk.new (w0.alloc (.cells a.cells.toArray 27)) 32 t.cells.toArray
  simp only [World.size_alloc] at k2
  exact ⟨b, (Blk.new _ _ _).alloc _, k2, h.on b (Nat.le_refl _), TxA.In.on ht b (Nat.le_refl _)⟩
theorem BH2.call {w0 w w' : World} {a : BkA} {t : TxA} (h : BH2 w0 w a t) (b : Below w.heap.size w w') : BH2 w0 w' a t :=
  ⟨h.below.trans (b.mono h.below.size), below_blk b h.k h.k.lt, below_blk b h.kt h.kt.lt, h.inn.on b (Nat.le_refl _), TxA.In.on h.tin b (Nat.le_refl _)⟩
set_option maxRecDepth 20000 in
set_option maxHeartbeats 16000000 in
theorem bkenc_walk (HE : EncBOk) (HI : IdBOk) (HN : NotesBOk) (HG : SigsBOk) (HZ : SizeBOk) (a : BkA) (t : TxA) (w : World) (h : a.In w w.heap.size) (ht : t.In w w.heap.size) (hR : Roots w) :
    Calls Tryd.prog 3 #[.agg a.cells.toArray, .agg t.cells.toArray] w fun e w' => e = .returned (.bool true) ∧ Below w.heap.size w w' := by
  have HRt := Lib.hid hR
  clear hR
  unfold NotesBOk at HN
  unfold SigsBOk at HG
  unfold SizeBOk at HZ
  have HX := Lib.hid (BH2.new h ht)
  clear h ht
  obtain ⟨hv, hhv⟩ : ∃ b, heavyB a.B = b := ⟨_, rfl⟩
  have hH := Lib.hid hhv
  clear hhv
  by_cases hbad : hv = true
  · subst hbad
    go_enter Tryd.func3, Tryd.ntmps3
    go_wp2_with ((with_reducible refine at_load 2 ?_); refine tyBk.wpList_load rfl (.tmp 2) rfl w.heap.size 0 rfl a (by simpa using RowC.of_blk HX.out.k) ?_)
    refine (heavyB_any a _ HX.out.inn).mono ?_
    rintro e w1 ⟨rfl, b1⟩
    rw [hH.out]
    have H1 := Lib.hid (HX.out.call b1)
    clear b1 HX
    go_wp2_with fail
    refine (bshown_any HE _).mono ?_
    rintro e w2 ⟨rfl, b2⟩
    go_wp2
    go_ret
    exact ⟨rfl, (H1.out.call b2).below⟩
  obtain rfl : hv = false := by cases hv <;> simp_all
  clear hbad
  obtain ⟨hv2, hhv2⟩ : ∃ b, (∀ A c, heavyB (oneT t A c).B = b) := ⟨heavyB ⟨zeroKey, zeroKey, toU32 0, [t.T]⟩, fun _ _ => rfl⟩
  have hH2 := Lib.hid hhv2
  clear hhv2
  go_enter Tryd.func3, Tryd.ntmps3
  go_wp2_with ((with_reducible refine at_load 2 ?_); refine tyBk.wpList_load rfl (.tmp 2) rfl w.heap.size 0 rfl a (by simpa using RowC.of_blk HX.out.k) ?_)
  refine (heavyB_any a _ HX.out.inn).mono ?_
  rintro e w1 ⟨rfl, bq⟩
  rw [hH.out]
  have HX' := Lib.hid (HX.out.call bq)
  clear bq
  clear HX; have HX := HX'; clear HX'
  go_wp2_with (first | ((with_reducible refine at_loadg 3 ?_); refine tyTx.wpList_load (by rfl) (.tmp 3) rfl (w.heap.size + 1) 0 rfl t (by simpa using RowC.of_blk HX.out.kt) ?_) | ((with_reducible refine at_buildSlice 17 ?_); refine wpList_unguard (by rfl) ?_; refine tyTxR.wpList_build rfl zsTx 1 _ rfl [t] rfl (by omega) (by omega) (by kernel_rfl) ?_) | ((with_reducible refine at_build 18 ?_); refine wpList_unguard (by rfl) ?_; refine wpList_built rfl 27 #[(3, .tmp 17)] rfl (oneT t (some ⟨w1.heap.size, 0, none⟩) 1).cells.toArray (by kernel_rfl) ?_))
  have B2 := ((Below.refl w1.heap.size w1).alloc (Nat.le_refl _) (.cells (cellsOf TxA.cells [t]).toArray 32))
  refine (heavyB_any (oneT t (some ⟨w1.heap.size, 0, none⟩) 1) _ (oneT_in ⟨Nat.le_refl _, by decide, fun _ => ⟨w1.heap.size, 0, rfl, by simp, RowC.of_blk (Blk.new _ _ _)⟩⟩ (TxA.In.on HX.out.tin B2 (Nat.le_refl _)))).mono ?_
  rintro e w2 ⟨rfl, bq⟩
  rw [hH2.out]
  have HX' := Lib.hid ((HX.out.call B2).call bq)
  clear bq B2
  clear HX; have HX := HX'; clear HX'
  cases hv2 with
  | true =>
    go_wp2_with fail
    refine (bshown_any HE _).mono ?_
    rintro e w3 ⟨rfl, b3⟩
    go_wp2
    go_ret
    exact ⟨rfl, (HX.out.call b3).below⟩
  | false =>
  go_wp2_with fail
  refine (bshown_any HE _).mono ?_
  rintro e w3 ⟨rfl, bq⟩
  have HX' := Lib.hid (HX.out.call bq)
  clear bq
  clear HX; have HX := HX'; clear HX'
  go_wp2_with ((with_reducible refine at_load 2 ?_); refine tyBk.wpList_load rfl (.tmp 2) rfl w.heap.size 0 rfl a (by simpa using RowC.of_blk HX.out.k) ?_)
  refine (HE a _ HX.out.inn (midB_of hH.out)).mono ?_
  rintro e w4 ⟨rfl, bq⟩
  have HX' := Lib.hid (HX.out.call bq)
  clear bq
  clear HX; have HX := HX'; clear HX'
  obtain ⟨⟨S, er⟩, hSe⟩ : ∃ x, encBF a.B = x := ⟨_, rfl⟩
  rw [hSe]
  have HSe := Lib.hid hSe
  clear hSe
  unfold encV
  go_wp2_with ((with_reducible refine at_load 2 ?_); refine tyBk.wpList_load rfl (.tmp 2) rfl w.heap.size 0 rfl a (by simpa using RowC.of_blk HX.out.k) ?_)
  refine (refEncB_any a _ HX.out.inn).mono ?_
  rintro e w5 ⟨rfl, bq⟩
  rw [HSe.out]
  have HX' := Lib.hid (HX.out.call bq)
  clear bq
  clear HX; have HX := HX'; clear HX'
  unfold encV
  go_wp2_with ((with_reducible refine at_load 2 ?_); refine tyBk.wpList_load rfl (.tmp 2) rfl w.heap.size 0 rfl a (by simpa using RowC.of_blk HX.out.k) ?_)
  refine (HI a _ HX.out.inn (midB_of hH.out) (HRt.out.below HX.out.below HRt.out.lt0 HRt.out.lt1)).mono ?_
  rintro e w6 ⟨rfl, bq⟩
  have HX' := Lib.hid (HX.out.call bq)
  clear bq
  clear HX; have HX := HX'; clear HX'
  obtain ⟨⟨kd, ed⟩, hKe⟩ : ∃ x, idBF a.B = x := ⟨_, rfl⟩
  rw [hKe]
  have HKe := Lib.hid hKe
  clear hKe
  unfold idV
  go_wp2_with (first
    | ((with_reducible refine at_store 9 39 ?_); refine tyKc.wpList_store rfl (.tmp 9) (.tmp 39) rfl rfl w6.heap.size kd rfl rfl 23 _ (Blk.new w6 _ _) rfl ?_; intro w7 o b
       have K9a := Lib.hid b
       have HX' := Lib.hid (HX.out.call (((Below.refl w6.heap.size w6).alloc (Nat.le_refl _) _).trans (o.below (by simp))))
       clear b o
       clear HX; have HX := HX'; clear HX')
    | ((with_reducible refine at_load 2 ?_); refine tyBk.wpList_load rfl (.tmp 2) rfl w.heap.size 0 rfl a (by simpa using RowC.of_blk HX.out.k) ?_))
  refine (refIdB_any a _ HX.out.inn).mono ?_
  rintro e w8 ⟨rfl, bq⟩
  rw [HKe.out]
  have K9b := Lib.hid (below_blk bq K9a.out K9a.out.lt)
  clear K9a
  have HX' := Lib.hid (HX.out.call bq)
  clear bq
  clear HX; have HX := HX'; clear HX'
  unfold idV
  go_wp2_with ((with_reducible refine at_store 11 44 ?_); refine tyKc.wpList_store rfl (.tmp 11) (.tmp 44) rfl rfl w8.heap.size kd rfl rfl 23 _ (Blk.new w8 _ _) rfl ?_; intro w9 o b
               have K11 := Lib.hid b
               have bq := ((Below.refl w8.heap.size w8).alloc (Nat.le_refl _) _).trans (o.below (by simp))
               have K9 := Lib.hid (below_blk bq K9b.out K9b.out.lt)
               have H6 := Lib.hid (HX.out.call bq)
               clear b o bq K9b HX)
  have HNN := Lib.hid (show decide (notesF a.B.txs = notesF a.B.txs) = true from decide_eq_true rfl)
  obtain ⟨g9, hg9⟩ : ∃ g, w6.heap.size = g := ⟨_, rfl⟩
  obtain ⟨g11, hg11⟩ : ∃ g, w8.heap.size = g := ⟨_, rfl⟩
  rw [hg9] at K9 ⊢
  rw [hg11] at K11 ⊢
  clear hg9 hg11
  refine wp_region_held_drew (S := From w9) (by kernel_rfl) (Below.refl _ _).drew ?_
  intro hS
  refine wpAnyH_take (i := 0) (v := .string ⟨S.toArray⟩) rfl (by kernel_rfl) (by kernel_rfl) (by kernel_rfl) (fun _ _ _ h => h) (Or.inl ⟨by rfl, fun W _ => by go_simp; try with_reducible rfl⟩) hS ?_
  simp only [Act.put, List.getElem_toArray, List.getElem_cons_zero, List.setIfInBounds_toArray, List.set_cons_succ, List.set_cons_zero]
  refine wpAnyH_take (i := 1) (v := .string ⟨S.toArray⟩) rfl (by kernel_rfl) (by kernel_rfl) (by kernel_rfl) (fun _ _ _ h => h) (Or.inl ⟨by rfl, fun W _ => by go_simp; try with_reducible rfl⟩) hS ?_
  simp only [Act.put, List.getElem_toArray, List.getElem_cons_zero, List.getElem_cons_succ, List.setIfInBounds_toArray, List.set_cons_succ, List.set_cons_zero]
  refine wpAnyH_take (i := 2) (v := .bool true) rfl (by kernel_rfl) (by kernel_rfl) (by kernel_rfl) (fun _ _ _ h => h) (Or.inl ⟨by rfl, fun W _ => by go_simp; try with_reducible rfl⟩) hS ?_
  simp only [Act.put, List.getElem_toArray, List.getElem_cons_zero, List.getElem_cons_succ, List.setIfInBounds_toArray, List.set_cons_succ, List.set_cons_zero]
  refine wpAnyH_take (i := 3) (v := .bool true) rfl (by kernel_rfl) (by kernel_rfl) (by kernel_rfl) (fun _ _ _ h => h) (Or.inl ⟨by rfl, fun W _ => by go_simp; try with_reducible rfl⟩) hS ?_
  simp only [Act.put, List.getElem_toArray, List.getElem_cons_zero, List.getElem_cons_succ, List.setIfInBounds_toArray, List.set_cons_succ, List.set_cons_zero]
  refine wpAnyH_take (i := 4) (v := .int .i64 er) rfl (by kernel_rfl) (by kernel_rfl) (by kernel_rfl) (fun _ _ _ h => h) (Or.inl ⟨by rfl, fun W _ => by go_simp; try with_reducible rfl⟩) hS ?_
  simp only [Act.put, List.getElem_toArray, List.getElem_cons_zero, List.getElem_cons_succ, List.setIfInBounds_toArray, List.set_cons_succ, List.set_cons_zero]
  refine wpAnyH_take (i := 5) (v := .int .i64 er) rfl (by kernel_rfl) (by kernel_rfl) (by kernel_rfl) (fun _ _ _ h => h) (Or.inl ⟨by rfl, fun W _ => by go_simp; try with_reducible rfl⟩) hS ?_
  simp only [Act.put, List.getElem_toArray, List.getElem_cons_zero, List.getElem_cons_succ, List.setIfInBounds_toArray, List.set_cons_succ, List.set_cons_zero]
  refine wpAnyH_take (i := 6) (v := .bool true) rfl (by kernel_rfl) (by kernel_rfl) (by kernel_rfl) (fun _ _ _ h => h) (Or.inl ⟨by rfl, fun W _ => by go_simp; try with_reducible rfl⟩) hS ?_
  simp only [Act.put, List.getElem_toArray, List.getElem_cons_zero, List.getElem_cons_succ, List.setIfInBounds_toArray, List.set_cons_succ, List.set_cons_zero]
  refine wpAnyH_take (i := 7) (v := .bool true) rfl (by kernel_rfl) (by kernel_rfl) (by kernel_rfl) (fun _ _ _ h => h) (Or.inl ⟨by rfl, fun W _ => by go_simp; try with_reducible rfl⟩) hS ?_
  simp only [Act.put, List.getElem_toArray, List.getElem_cons_zero, List.getElem_cons_succ, List.setIfInBounds_toArray, List.set_cons_succ, List.set_cons_zero]
  refine wpAnyH_take (i := 8) (v := .bool true) rfl (by kernel_rfl) (by kernel_rfl) (by kernel_rfl) (fun _ _ _ h => h) (Or.inl ⟨by rfl, fun W _ => by go_simp; try with_reducible rfl⟩) hS ?_
  simp only [Act.put, List.getElem_toArray, List.getElem_cons_zero, List.getElem_cons_succ, List.setIfInBounds_toArray, List.set_cons_succ, List.set_cons_zero]
  refine wpAnyH_take (i := 9) (v := .agg (encK kd).toArray) rfl (by kernel_rfl) (by kernel_rfl) (by kernel_rfl) (fun _ _ _ h => h) (tyKc.yieldsIf_load (by rfl) (.tmp 9) rfl g9 0 rfl kd (fun _ hW => by simpa using RowC.of_blk (below_blk hW.below K9.out K9.out.lt))) hS ?_
  simp only [Act.put, List.getElem_toArray, List.getElem_cons_zero, List.getElem_cons_succ, List.setIfInBounds_toArray, List.set_cons_succ, List.set_cons_zero]
  refine wpAnyH_take (i := 10) (v := .agg (encK kd).toArray) rfl (by kernel_rfl) (by kernel_rfl) (by kernel_rfl) (fun _ _ _ h => h) (tyKc.yieldsIf_load (by rfl) (.tmp 11) rfl g11 0 rfl kd (fun _ hW => by simpa using RowC.of_blk (below_blk hW.below K11.out K11.out.lt))) hS ?_
  simp only [Act.put, List.getElem_toArray, List.getElem_cons_zero, List.getElem_cons_succ, List.setIfInBounds_toArray, List.set_cons_succ, List.set_cons_zero]
  refine wpAnyH_take (i := 11) (v := .bool true) rfl (by kernel_rfl) (by kernel_rfl) (by kernel_rfl) (fun _ _ _ h => h) (yieldsIf_eql_row (by rfl) 23 23 (.tmp 55) (.tmp 56) rfl (encK kd).toArray (encK kd).toArray rfl rfl (by kernel_rfl) true (fun V => (eqKy_run _ _ V).trans (by simp))) hS ?_
  simp only [Act.put, List.getElem_toArray, List.getElem_cons_zero, List.getElem_cons_succ, List.setIfInBounds_toArray, List.set_cons_succ, List.set_cons_zero]
  refine wpAnyH_take (i := 12) (v := .bool true) rfl (by kernel_rfl) (by kernel_rfl) (by kernel_rfl) (fun _ _ _ h => h) (Or.inl ⟨by rfl, fun W _ => by go_simp; try with_reducible rfl⟩) hS ?_
  simp only [Act.put, List.getElem_toArray, List.getElem_cons_zero, List.getElem_cons_succ, List.setIfInBounds_toArray, List.set_cons_succ, List.set_cons_zero]
  refine wpAnyH_take (i := 13) (v := .bool true) rfl (by kernel_rfl) (by kernel_rfl) (by kernel_rfl) (fun _ _ _ h => h) (Or.inl ⟨by rfl, fun W _ => by go_simp; try with_reducible rfl⟩) hS ?_
  simp only [Act.put, List.getElem_toArray, List.getElem_cons_zero, List.getElem_cons_succ, List.setIfInBounds_toArray, List.set_cons_succ, List.set_cons_zero]
  refine wpAnyH_take (i := 14) (v := .int .i64 ed) rfl (by kernel_rfl) (by kernel_rfl) (by kernel_rfl) (fun _ _ _ h => h) (Or.inl ⟨by rfl, fun W _ => by go_simp; try with_reducible rfl⟩) hS ?_
  simp only [Act.put, List.getElem_toArray, List.getElem_cons_zero, List.getElem_cons_succ, List.setIfInBounds_toArray, List.set_cons_succ, List.set_cons_zero]
  refine wpAnyH_take (i := 15) (v := .int .i64 ed) rfl (by kernel_rfl) (by kernel_rfl) (by kernel_rfl) (fun _ _ _ h => h) (Or.inl ⟨by rfl, fun W _ => by go_simp; try with_reducible rfl⟩) hS ?_
  simp only [Act.put, List.getElem_toArray, List.getElem_cons_zero, List.getElem_cons_succ, List.setIfInBounds_toArray, List.set_cons_succ, List.set_cons_zero]
  refine wpAnyH_take (i := 16) (v := .bool true) rfl (by kernel_rfl) (by kernel_rfl) (by kernel_rfl) (fun _ _ _ h => h) (Or.inl ⟨by rfl, fun W _ => by go_simp; try with_reducible rfl⟩) hS ?_
  simp only [Act.put, List.getElem_toArray, List.getElem_cons_zero, List.getElem_cons_succ, List.setIfInBounds_toArray, List.set_cons_succ, List.set_cons_zero]
  refine wpAnyH_take (i := 17) (v := .bool true) rfl (by kernel_rfl) (by kernel_rfl) (by kernel_rfl) (fun _ _ _ h => h) (Or.inl ⟨by rfl, fun W _ => by go_simp; try with_reducible rfl⟩) hS ?_
  simp only [Act.put, List.getElem_toArray, List.getElem_cons_zero, List.getElem_cons_succ, List.setIfInBounds_toArray, List.set_cons_succ, List.set_cons_zero]
  refine wpAnyH_take (i := 18) (v := .bool true) rfl (by kernel_rfl) (by kernel_rfl) (by kernel_rfl) (fun _ _ _ h => h) (Or.inl ⟨by rfl, fun W _ => by go_simp; try with_reducible rfl⟩) hS ?_
  simp only [Act.put, List.getElem_toArray, List.getElem_cons_zero, List.getElem_cons_succ, List.setIfInBounds_toArray, List.set_cons_succ, List.set_cons_zero]
  refine wpAnyH_take (i := 19) (v := .agg a.cells.toArray) rfl (by kernel_rfl) (by kernel_rfl) (by kernel_rfl) (fun _ _ _ h => h) (tyBk.yieldsIf_load (by rfl) (.tmp 2) rfl w.heap.size 0 rfl a (fun _ hW => by simpa using RowC.of_blk (H6.out.call hW.below).k)) hS ?_
  simp only [Act.put, List.getElem_toArray, List.getElem_cons_zero, List.getElem_cons_succ, List.setIfInBounds_toArray, List.set_cons_succ, List.set_cons_zero]
  refine wpAnyH_take (i := 21) (v := .agg a.cells.toArray) rfl (by kernel_rfl) (by kernel_rfl) (by kernel_rfl) (fun _ _ _ h => h) (tyBk.yieldsIf_load (by rfl) (.tmp 2) rfl w.heap.size 0 rfl a (fun _ hW => by simpa using RowC.of_blk (H6.out.call hW.below).k)) hS ?_
  simp only [Act.put, List.getElem_toArray, List.getElem_cons_zero, List.getElem_cons_succ, List.setIfInBounds_toArray, List.set_cons_succ, List.set_cons_zero]
  refine wpAnyH_ready (rs := [20]) (by kernel_rfl) (by simp) ?_
  refine AllReadyH.cons rfl (fun Kq hK => ?_) AllReadyH.nil
  go_simp
  with_reducible refine (HN a _ (H6.out.call hS.below).inn hH.out).mono ?_
  rintro e x1 ⟨⟨A1, c1, rfl, r1⟩, b1⟩
  have R1 := Lib.hid r1
  clear r1
  refine hK.out _ _ (hS.call b1) (fun hS => ?_)
  clear hK Kq b1
  refine wpAnyH_ready (rs := [22]) (by kernel_rfl) (by simp) ?_
  refine AllReadyH.cons rfl (fun Kq hK => ?_) AllReadyH.nil
  go_simp
  with_reducible refine (refNotes_any a _ (H6.out.call hS.below).inn hH.out).mono ?_
  rintro e x2 ⟨⟨A2, c2, rfl, r2⟩, b2⟩
  have R1b := Lib.hid ((row_own encK_len R1.out).below b2 |>.more b2.size)
  have R2 := Lib.hid (row_own encK_len r2)
  clear r2
  refine hK.out _ _ (hS.call b2) (fun hS => ?_)
  clear hK Kq b2
  refine wpAnyH_ready (rs := [23]) (by kernel_rfl) (by simp) ?_
  refine AllReadyH.cons rfl (fun Kq hK => ?_) AllReadyH.nil
  go_simp
  with_reducible refine (refSameK_any A1 A2 c1 c2 _ _ _ R1b.out R2.out).mono ?_
  rintro e x3 ⟨rfl, b3⟩
  rw [HNN.out]
  refine hK.out _ _ (hS.call b3) (fun hS => ?_)
  clear hK Kq b3
  refine wpAnyH_take (i := 24) (v := .bool true) rfl (by kernel_rfl) (by kernel_rfl) (by kernel_rfl) (fun _ _ _ h => h) (Or.inl ⟨by rfl, fun W _ => by go_simp; try with_reducible rfl⟩) hS ?_
  simp only [Act.put, List.getElem_toArray, List.getElem_cons_zero, List.getElem_cons_succ, List.setIfInBounds_toArray, List.set_cons_succ, List.set_cons_zero]
  refine wpAnyH_take (i := 25) (v := .bool true) rfl (by kernel_rfl) (by kernel_rfl) (by kernel_rfl) (fun _ _ _ h => h) (Or.inl ⟨by rfl, fun W _ => by go_simp; try with_reducible rfl⟩) hS ?_
  simp only [Act.put, List.getElem_toArray, List.getElem_cons_zero, List.getElem_cons_succ, List.setIfInBounds_toArray, List.set_cons_succ, List.set_cons_zero]
  refine wpAnyH_take (i := 26) (v := .agg a.cells.toArray) rfl (by kernel_rfl) (by kernel_rfl) (by kernel_rfl) (fun _ _ _ h => h) (tyBk.yieldsIf_load (by rfl) (.tmp 2) rfl w.heap.size 0 rfl a (fun _ hW => by simpa using RowC.of_blk (H6.out.call hW.below).k)) hS ?_
  simp only [Act.put, List.getElem_toArray, List.getElem_cons_zero, List.getElem_cons_succ, List.setIfInBounds_toArray, List.set_cons_succ, List.set_cons_zero]
  refine wpAnyH_take (i := 28) (v := .agg a.cells.toArray) rfl (by kernel_rfl) (by kernel_rfl) (by kernel_rfl) (fun _ _ _ h => h) (tyBk.yieldsIf_load (by rfl) (.tmp 2) rfl w.heap.size 0 rfl a (fun _ hW => by simpa using RowC.of_blk (H6.out.call hW.below).k)) hS ?_
  simp only [Act.put, List.getElem_toArray, List.getElem_cons_zero, List.getElem_cons_succ, List.setIfInBounds_toArray, List.set_cons_succ, List.set_cons_zero]
  refine wpAnyH_ready (rs := [27]) (by kernel_rfl) (by simp) ?_
  refine AllReadyH.cons rfl (fun Kq hK => ?_) AllReadyH.nil
  go_simp
  with_reducible refine (HG a _ (H6.out.call hS.below).inn hH.out).mono ?_
  rintro e x4 ⟨rfl, b4⟩
  refine hK.out _ _ (hS.call b4) (fun hS => ?_)
  clear hK Kq b4
  refine wpAnyH_ready (rs := [29]) (by kernel_rfl) (by simp) ?_
  refine AllReadyH.cons rfl (fun Kq hK => ?_) AllReadyH.nil
  go_simp
  with_reducible refine (refSigs_any a _ (H6.out.call hS.below).inn hH.out).mono ?_
  rintro e x5 ⟨rfl, b5⟩
  refine hK.out _ _ (hS.call b5) (fun hS => ?_)
  clear hK Kq b5
  refine wpAnyH_take (i := 30) (v := .bool true) rfl (by kernel_rfl) (by kernel_rfl) (by kernel_rfl) (fun _ _ _ h => h) (Or.inl ⟨by rfl, fun W _ => by go_simp; try with_reducible rfl⟩) hS ?_
  simp only [Act.put, List.getElem_toArray, List.getElem_cons_zero, List.getElem_cons_succ, List.setIfInBounds_toArray, List.set_cons_succ, List.set_cons_zero]
  refine wpAnyH_take (i := 31) (v := .bool true) rfl (by kernel_rfl) (by kernel_rfl) (by kernel_rfl) (fun _ _ _ h => h) (Or.inl ⟨by rfl, fun W _ => by go_simp; try with_reducible rfl⟩) hS ?_
  simp only [Act.put, List.getElem_toArray, List.getElem_cons_zero, List.getElem_cons_succ, List.setIfInBounds_toArray, List.set_cons_succ, List.set_cons_zero]
  refine wpAnyH_take (i := 32) (v := .bool true) rfl (by kernel_rfl) (by kernel_rfl) (by kernel_rfl) (fun _ _ _ h => h) (Or.inl ⟨by rfl, fun W _ => by go_simp; try with_reducible rfl⟩) hS ?_
  simp only [Act.put, List.getElem_toArray, List.getElem_cons_zero, List.getElem_cons_succ, List.setIfInBounds_toArray, List.set_cons_succ, List.set_cons_zero]
  refine wpAnyH_take (i := 33) (v := .agg t.cells.toArray) rfl (by kernel_rfl) (by kernel_rfl) (by kernel_rfl) (fun _ _ _ h => h) (tyTx.yieldsIf_load (by rfl) (.tmp 3) rfl (w.heap.size + 1) 0 rfl t (fun _ hW => by simpa using RowC.of_blk (H6.out.call hW.below).kt)) hS ?_
  simp only [Act.put, List.getElem_toArray, List.getElem_cons_zero, List.getElem_cons_succ, List.setIfInBounds_toArray, List.set_cons_succ, List.set_cons_zero]
  refine wpAnyH_take (i := 35) (v := .agg t.cells.toArray) rfl (by kernel_rfl) (by kernel_rfl) (by kernel_rfl) (fun _ _ _ h => h) (tyTx.yieldsIf_load (by rfl) (.tmp 3) rfl (w.heap.size + 1) 0 rfl t (fun _ hW => by simpa using RowC.of_blk (H6.out.call hW.below).kt)) hS ?_
  simp only [Act.put, List.getElem_toArray, List.getElem_cons_zero, List.getElem_cons_succ, List.setIfInBounds_toArray, List.set_cons_succ, List.set_cons_zero]
  refine wpAnyH_ready (rs := [34]) (by kernel_rfl) (by simp) ?_
  refine AllReadyH.cons rfl (fun Kq hK => ?_) AllReadyH.nil
  go_simp
  with_reducible refine (HZ t _ (H6.out.call hS.below).tin).mono ?_
  rintro e x6 ⟨rfl, b6⟩
  refine hK.out _ _ (hS.call b6) (fun hS => ?_)
  clear hK Kq b6
  refine wpAnyH_ready (rs := [36]) (by kernel_rfl) (by simp) ?_
  refine AllReadyH.cons rfl (fun Kq hK => ?_) AllReadyH.nil
  go_simp
  with_reducible refine (refSizeB_any t _ (H6.out.call hS.below).tin).mono ?_
  rintro e x7 ⟨rfl, b7⟩
  refine hK.out _ _ (hS.call b7) (fun hS => ?_)
  clear hK Kq b7
  refine wpAnyH_take (i := 37) (v := .bool true) rfl (by kernel_rfl) (by kernel_rfl) (by kernel_rfl) (fun _ _ _ h => h) (Or.inl ⟨by rfl, fun W _ => by go_simp; try with_reducible rfl⟩) hS ?_
  simp only [Act.put, List.getElem_toArray, List.getElem_cons_zero, List.getElem_cons_succ, List.setIfInBounds_toArray, List.set_cons_succ, List.set_cons_zero]
  refine wpAnyH_take (i := 38) (v := .bool true) rfl (by kernel_rfl) (by kernel_rfl) (by kernel_rfl) (fun _ _ _ h => h) (Or.inl ⟨by rfl, fun W _ => by go_simp; try with_reducible rfl⟩) hS ?_
  simp only [Act.put, List.getElem_toArray, List.getElem_cons_zero, List.getElem_cons_succ, List.setIfInBounds_toArray, List.set_cons_succ, List.set_cons_zero]
  refine wpAnyH_ready (rs := [39]) (by kernel_rfl) (by simp) ?_
  refine AllReadyH.cons rfl (fun Kq hK => ?_) AllReadyH.nil
  go_simp
  refine hK.out _ _ hS (fun hS => ?_)
  clear hK Kq
  refine wpAnyH_done (by kernel_rfl) ?_ _
  go_wp2_with fail
  go_ret
  exact ⟨rfl, (H6.out.call hS.below).below⟩
end Go.Proofs.YthpnmmilioonhaaDoor
