/- TxEncodes: any transaction's bytes, and its name, are the document's, or its error: the statement's walk. Written by genEncL.py. -/
import Derived.Test.YtgcopgnkfokphaaDoorTxEq
import Derived.Test.YtgcopgnkfokphaaDoorTxRi
import Derived.Test.YtgcopgnkfokphaaDoorTxK
import Derived.Test.YtgcopgnkfokphaaDoorTxH
import Derived.Test.YtgcopgnkfokphaaDoorRoots
namespace Go.Proofs.YtgcopgnkfokphaaDoor
open Go.RowKit
set_option maxRecDepth 20000 in
set_option maxHeartbeats 4000000 in
theorem encodes_walk (a b : TxA) (w : World) (ha : a.In w w.heap.size) (hb : b.In w w.heap.size) (hR : Roots w) :
    Calls Tryd.prog 3 #[.agg a.cells.toArray, .agg b.cells.toArray] w fun e w' => e = .returned (.bool true) ∧ Below w.heap.size w w' := by
  have l0 := hR.lt0
  have l1 := hR.lt1
  have HR := Lib.hid hR
  have ST := Lib.hid (show SaS w a b ((w.alloc (.cells a.cells.toArray 29)).alloc (.cells b.cells.toArray 29)) from
    ⟨((Below.refl _ _).alloc (Nat.le_refl _) _).alloc (by simp) _, (Blk.new _ _ _).alloc _, blk_new _ _ (by simp), ha.on (((Below.refl _ _).alloc (Nat.le_refl _) _).alloc (by simp) _) (Nat.le_refl _), hb.on (((Below.refl _ _).alloc (Nat.le_refl _) _).alloc (by simp) _) (Nat.le_refl _)⟩)
  clear ha hb hR
  obtain ⟨h1, hh1⟩ : ∃ q, heavyF a.T = q := ⟨_, rfl⟩
  obtain ⟨h2, hh2⟩ : ∃ q, heavyF b.T = q := ⟨_, rfl⟩
  have H1 := Lib.hid hh1
  have H2 := Lib.hid hh2
  clear hh1 hh2
  obtain ⟨⟨s, er⟩, hen⟩ : ∃ q, encF a.T = q := ⟨_, rfl⟩
  obtain ⟨⟨nm, fr⟩, hid⟩ : ∃ q, idF a.T = q := ⟨_, rfl⟩
  obtain ⟨cb, hcb⟩ : ∃ q, coinF a.T = q := ⟨_, rfl⟩
  obtain ⟨sb, hsb⟩ : ∃ q, sameF a.T b.T = q := ⟨_, rfl⟩
  have HE := Lib.hid hen
  have HI := Lib.hid hid
  have HCB := Lib.hid hcb
  have HSB := Lib.hid hsb
  have HSS := Lib.hid (show sameF a.T a.T = true from (sameF_iff _ _).2 rfl)
  clear hen hid hcb hsb
  go_enter Tryd.func3, Tryd.ntmps3
  go_wp2_with (first | ((with_reducible refine at_loadg 2 ?_); refine tyTx.wpList_load (by rfl) (.tmp 2) rfl w.heap.size 0 rfl a (by simpa using RowC.of_blk ST.out.ka) ?_) | ((with_reducible refine at_loadg 3 ?_); refine tyTx.wpList_load (by rfl) (.tmp 3) rfl (w.heap.size + 1) 0 rfl b (by simpa using RowC.of_blk ST.out.kb) ?_))
  refine (heavyA_any a _).mono ?_
  rintro e w' ⟨rfl, hb⟩
  rw [H1.out]
  have ST' := Lib.hid (ST.out.call hb)
  clear hb
  clear ST; have ST := ST'; clear ST'
  cases h1 with
  | true =>
    go_wp2_with fail
    refine (xshown_any _).mono ?_
    rintro e w' ⟨rfl, hb⟩
    have ST' := Lib.hid (ST.out.call hb)
    clear hb
    clear ST; have ST := ST'; clear ST'
    go_wp2
    go_ret
    exact ⟨rfl, ST.out.below⟩
  | false =>
    go_wp2_with (first | ((with_reducible refine at_loadg 2 ?_); refine tyTx.wpList_load (by rfl) (.tmp 2) rfl w.heap.size 0 rfl a (by simpa using RowC.of_blk ST.out.ka) ?_) | ((with_reducible refine at_loadg 3 ?_); refine tyTx.wpList_load (by rfl) (.tmp 3) rfl (w.heap.size + 1) 0 rfl b (by simpa using RowC.of_blk ST.out.kb) ?_))
    refine (heavyA_any b _).mono ?_
    rintro e w' ⟨rfl, hb⟩
    rw [H2.out]
    have ST' := Lib.hid (ST.out.call hb)
    clear hb
    clear ST; have ST := ST'; clear ST'
    cases h2 with
    | true =>
      go_wp2_with fail
      refine (xshown_any _).mono ?_
      rintro e w' ⟨rfl, hb⟩
      have ST' := Lib.hid (ST.out.call hb)
      clear hb
      clear ST; have ST := ST'; clear ST'
      go_wp2
      go_ret
      exact ⟨rfl, ST.out.below⟩
    | false =>
      go_wp2_with (first | ((with_reducible refine at_loadg 2 ?_); refine tyTx.wpList_load (by rfl) (.tmp 2) rfl w.heap.size 0 rfl a (by simpa using RowC.of_blk ST.out.ka) ?_) | ((with_reducible refine at_loadg 3 ?_); refine tyTx.wpList_load (by rfl) (.tmp 3) rfl (w.heap.size + 1) 0 rfl b (by simpa using RowC.of_blk ST.out.kb) ?_))
      refine (xshown_any _).mono ?_
      rintro e w' ⟨rfl, hb⟩
      have ST' := Lib.hid (ST.out.call hb)
      clear hb
      clear ST; have ST := ST'; clear ST'
      go_wp2_with (first | ((with_reducible refine at_loadg 2 ?_); refine tyTx.wpList_load (by rfl) (.tmp 2) rfl w.heap.size 0 rfl a (by simpa using RowC.of_blk ST.out.ka) ?_) | ((with_reducible refine at_loadg 3 ?_); refine tyTx.wpList_load (by rfl) (.tmp 3) rfl (w.heap.size + 1) 0 rfl b (by simpa using RowC.of_blk ST.out.kb) ?_))
      refine (encA_any a _ ST.out.ia).mono ?_
      rintro e w' ⟨rfl, hb⟩
      rw [HE.out]
      unfold encV
      have ST' := Lib.hid (ST.out.call hb)
      clear hb
      clear ST; have ST := ST'; clear ST'
      go_wp2_with (first | ((with_reducible refine at_loadg 2 ?_); refine tyTx.wpList_load (by rfl) (.tmp 2) rfl w.heap.size 0 rfl a (by simpa using RowC.of_blk ST.out.ka) ?_) | ((with_reducible refine at_loadg 3 ?_); refine tyTx.wpList_load (by rfl) (.tmp 3) rfl (w.heap.size + 1) 0 rfl b (by simpa using RowC.of_blk ST.out.kb) ?_))
      refine (refEncA_any a _ ST.out.ia).mono ?_
      rintro e w' ⟨rfl, hb⟩
      rw [HE.out]
      unfold encV
      have ST' := Lib.hid (ST.out.call hb)
      clear hb
      clear ST; have ST := ST'; clear ST'
      go_wp2_with (first | ((with_reducible refine at_loadg 2 ?_); refine tyTx.wpList_load (by rfl) (.tmp 2) rfl w.heap.size 0 rfl a (by simpa using RowC.of_blk ST.out.ka) ?_) | ((with_reducible refine at_loadg 3 ?_); refine tyTx.wpList_load (by rfl) (.tmp 3) rfl (w.heap.size + 1) 0 rfl b (by simpa using RowC.of_blk ST.out.kb) ?_))
      refine (id_any a _ ST.out.ia (HR.out.below ST.out.below l0 l1)).mono ?_
      rintro e w3 ⟨rfl, hb⟩
      have ST' := Lib.hid (ST.out.call hb)
      clear hb
      clear ST; have ST := ST'; clear ST'
      rw [HI.out]
      unfold idV
      go_wp2_with (first
        | ((with_reducible refine at_store 9 37 ?_); refine tyKc.wpList_store rfl (.tmp 9) (.tmp 37) rfl rfl w3.heap.size nm rfl rfl 26 _ (Blk.new w3 _ _) rfl ?_; intro w4 o4 b4
           have KN := Lib.hid b4
           have ST' := Lib.hid (ST.out.call (((Below.refl w3.heap.size w3).alloc (Nat.le_refl _) _).trans (o4.below (by simp))))
           clear b4 o4
           clear ST; have ST := ST'; clear ST')
        | ((with_reducible refine at_loadg 2 ?_); refine tyTx.wpList_load (by rfl) (.tmp 2) rfl w.heap.size 0 rfl a (by simpa using RowC.of_blk ST.out.ka) ?_))
      refine (refId_any a _ ST.out.ia (HR.out.below ST.out.below l0 l1)).mono ?_
      rintro e w5 ⟨rfl, hb⟩
      have KN5 := Lib.hid (below_blk hb KN.out KN.out.lt)
      have ST' := Lib.hid (ST.out.call hb)
      clear hb KN
      clear ST; have ST := ST'; clear ST'
      rw [HI.out]
      unfold idV
      go_wp2_with ((with_reducible refine at_store 11 42 ?_); refine tyKc.wpList_store rfl (.tmp 11) (.tmp 42) rfl rfl w5.heap.size nm rfl rfl 26 _ (Blk.new w5 _ _) rfl ?_; intro w6 o6 b6
                   have KM := Lib.hid b6
                   have B6 := Lib.hid (((Below.refl w5.heap.size w5).alloc (Nat.le_refl _) _).trans (o6.below (by simp)))
                   have KN6 := Lib.hid (below_blk B6.out KN5.out KN5.out.lt)
                   have ST' := Lib.hid (ST.out.call B6.out)
                   clear b6 o6 B6 KN5
                   clear ST; have ST := ST'; clear ST')
      refine wp_region_from (by kernel_rfl) (by kernel_rfl) ?_
      repeat (first
        | go_big_quiet_skip
        | ((with_reducible refine at_qload 2 ?_); refine tyTx.wpQuiet_load (by rfl) (.tmp 2) rfl w.heap.size 0 rfl a (fun _ hC => RowC.of_blk (below_blk hC.below ST.out.ka ST.out.ka.lt)) ?_; simp only [Act.put, List.setIfInBounds_toArray, List.set_cons_succ, List.set_cons_zero])
        | ((with_reducible refine at_qload 3 ?_); refine tyTx.wpQuiet_load (by rfl) (.tmp 3) rfl (w.heap.size + 1) 0 rfl b (fun _ hC => RowC.of_blk (below_blk hC.below ST.out.kb ST.out.kb.lt)) ?_; simp only [Act.put, List.setIfInBounds_toArray, List.set_cons_succ, List.set_cons_zero])
        | ((with_reducible refine at_qload 9 ?_); refine tyKy.wpQuiet_load (by rfl) (.tmp 9) rfl w3.heap.size 0 rfl nm (fun _ hC => RowC.of_blk (below_blk hC.below KN6.out KN6.out.lt)) ?_; simp only [Act.put, List.setIfInBounds_toArray, List.set_cons_succ, List.set_cons_zero])
        | ((with_reducible refine at_qload 11 ?_); refine tyKy.wpQuiet_load (by rfl) (.tmp 11) rfl w5.heap.size 0 rfl nm (fun _ hC => RowC.of_blk (below_blk hC.below KM.out KM.out.lt)) ?_; simp only [Act.put, List.setIfInBounds_toArray, List.set_cons_succ, List.set_cons_zero])
        | ((with_reducible refine at_qeql 53 54 ?_); refine wpQuiet_eql_row (by rfl) 26 26 (.tmp 53) (.tmp 54) rfl (encK nm).toArray (encK nm).toArray rfl rfl (by kernel_rfl) true (fun V => (eqKy_run _ _ V).trans (by simp)) ?_; simp only [Act.put, List.setIfInBounds_toArray, List.set_cons_succ, List.set_cons_zero])
        | (go_big_quiet_want; go_big_quiet_op; refine ⟨_, fun _ _ => by with_reducible rfl, ?_⟩; go_big_quiet_on)
        | go_big_quiet_step ((intro hC; first
            | (go_at_call 12; with_reducible exact (coin_any a _ (ST.out.ia.on hC.below (Nat.le_refl _))).mono fun _ _ h => ⟨h.1.trans (by rw [HCB.out]), hC.call h.2⟩)
            | (go_at_call 13; with_reducible exact (refCoin_any a _ (ST.out.ia.on hC.below (Nat.le_refl _))).mono fun _ _ h => ⟨h.1.trans (by rw [HCB.out]), hC.call h.2⟩)
            | (go_at_call 14; with_reducible exact (same_any a b _ (ST.out.ia.on hC.below (Nat.le_refl _)) (ST.out.ib.on hC.below (Nat.le_refl _))).mono fun _ _ h => ⟨h.1.trans (by rw [HSB.out]), hC.call h.2⟩)
            | (go_at_call 15; with_reducible exact (refSame_any a b _ (ST.out.ia.on hC.below (Nat.le_refl _)) (ST.out.ib.on hC.below (Nat.le_refl _))).mono fun _ _ h => ⟨h.1.trans (by rw [HSB.out]), hC.call h.2⟩)
            | (go_at_call 14; with_reducible exact (same_any a a _ (ST.out.ia.on hC.below (Nat.le_refl _)) (ST.out.ia.on hC.below (Nat.le_refl _))).mono fun _ _ h => ⟨h.1.trans (by rw [HSS.out]), hC.call h.2⟩)
            | fail)))
      refine wpQuiet_nil ?_
      intro w9 hC
      have ST' := Lib.hid (ST.out.call hC.below)
      clear hC
      clear ST; have ST := ST'; clear ST'
      go_wp2_with fail
      go_ret
      exact ⟨rfl, ST.out.below⟩
end Go.Proofs.YtgcopgnkfokphaaDoor
