/- TxNames: a transaction's name is its bytes' hash; with something in it another one its bytes are others: the statement's walk. Written by genNames.py. -/
import Derived.Test.YtgcopgnkfokphaaDoorTxEq
import Derived.Test.YtgcopgnkfokphaaDoorTxI
import Derived.Test.YtgcopgnkfokphaaDoorTxH
import Derived.Test.YtgcopgnkfokphaaDoorRoots
namespace Go.Proofs.YtgcopgnkfokphaaDoor
open Go.RowKit
set_option maxRecDepth 20000 in
set_option maxHeartbeats 4000000 in
theorem names_walk (a b : TxA) (w : World) (ha : a.In w w.heap.size) (hb : b.In w w.heap.size) (hR : Roots w) :
    Calls Tryd.prog 5 #[.agg a.cells.toArray, .agg b.cells.toArray] w fun e w' => e = .returned (.bool true) ∧ Below w.heap.size w w' := by
  have l0 := hR.lt0
  have l1 := hR.lt1
  have HR := Lib.hid hR
  have ST := Lib.hid (show SaS w a b ((w.alloc (.cells a.cells.toArray 29)).alloc (.cells b.cells.toArray 29)) from
    ⟨((Below.refl _ _).alloc (Nat.le_refl _) _).alloc (by simp) _, (Blk.new _ _ _).alloc _, blk_new _ _ (by simp), ha.on (((Below.refl _ _).alloc (Nat.le_refl _) _).alloc (by simp) _) (Nat.le_refl _), hb.on (((Below.refl _ _).alloc (Nat.le_refl _) _).alloc (by simp) _) (Nat.le_refl _)⟩)
  clear ha hb hR
  obtain ⟨h1, hh1⟩ : ∃ q, heavyF a.T = q := ⟨_, rfl⟩
  obtain ⟨h2, hh2⟩ : ∃ q, heavyF b.T = q := ⟨_, rfl⟩
  have H1 := Lib.hid hh1
  have H2 := Lib.hid hh2
  clear hh1 hh2
  go_enter Tryd.func5, Tryd.ntmps5
  go_wp2_with (first | ((with_reducible refine at_loadg 2 ?_); refine tyTx.wpList_load (by rfl) (.tmp 2) rfl w.heap.size 0 rfl a (by simpa using RowC.of_blk ST.out.ka) ?_) | ((with_reducible refine at_loadg 3 ?_); refine tyTx.wpList_load (by rfl) (.tmp 3) rfl (w.heap.size + 1) 0 rfl b (by simpa using RowC.of_blk ST.out.kb) ?_))
  refine (heavyA_any a _).mono ?_
  rintro e w' ⟨rfl, hb⟩
  rw [H1.out]
  have ST' := Lib.hid (ST.out.call hb)
  clear hb
  clear ST; have ST := ST'; clear ST'
  cases h1 with
  | true =>
    go_wp2_with fail
    refine (xshown_any _).mono ?_
    rintro e w' ⟨rfl, hb⟩
    have ST' := Lib.hid (ST.out.call hb)
    clear hb
    clear ST; have ST := ST'; clear ST'
    go_wp2
    go_ret
    exact ⟨rfl, ST.out.below⟩
  | false =>
    go_wp2_with (first | ((with_reducible refine at_loadg 2 ?_); refine tyTx.wpList_load (by rfl) (.tmp 2) rfl w.heap.size 0 rfl a (by simpa using RowC.of_blk ST.out.ka) ?_) | ((with_reducible refine at_loadg 3 ?_); refine tyTx.wpList_load (by rfl) (.tmp 3) rfl (w.heap.size + 1) 0 rfl b (by simpa using RowC.of_blk ST.out.kb) ?_))
    refine (heavyA_any b _).mono ?_
    rintro e w' ⟨rfl, hb⟩
    rw [H2.out]
    have ST' := Lib.hid (ST.out.call hb)
    clear hb
    clear ST; have ST := ST'; clear ST'
    cases h2 with
    | true =>
      go_wp2_with fail
      refine (xshown_any _).mono ?_
      rintro e w' ⟨rfl, hb⟩
      have ST' := Lib.hid (ST.out.call hb)
      clear hb
      clear ST; have ST := ST'; clear ST'
      go_wp2
      go_ret
      exact ⟨rfl, ST.out.below⟩
    | false =>
      go_wp2_with (first | ((with_reducible refine at_loadg 2 ?_); refine tyTx.wpList_load (by rfl) (.tmp 2) rfl w.heap.size 0 rfl a (by simpa using RowC.of_blk ST.out.ka) ?_) | ((with_reducible refine at_loadg 3 ?_); refine tyTx.wpList_load (by rfl) (.tmp 3) rfl (w.heap.size + 1) 0 rfl b (by simpa using RowC.of_blk ST.out.kb) ?_))
      refine (xshown_any _).mono ?_
      rintro e w' ⟨rfl, hb⟩
      have ST' := Lib.hid (ST.out.call hb)
      clear hb
      clear ST; have ST := ST'; clear ST'
      go_wp2_with (first | ((with_reducible refine at_loadg 2 ?_); refine tyTx.wpList_load (by rfl) (.tmp 2) rfl w.heap.size 0 rfl a (by simpa using RowC.of_blk ST.out.ka) ?_) | ((with_reducible refine at_loadg 3 ?_); refine tyTx.wpList_load (by rfl) (.tmp 3) rfl (w.heap.size + 1) 0 rfl b (by simpa using RowC.of_blk ST.out.kb) ?_))
      refine (encA_any a _ ST.out.ia).mono ?_
      rintro e w1 ⟨rfl, hb⟩
      have ST' := Lib.hid (ST.out.call hb)
      clear hb
      clear ST; have ST := ST'; clear ST'
      rcases (show (OkTx a.T ∧ encF a.T = (txB a.T, 0) ∧ idF a.T = (⟨dblL (txB a.T), dblL_len _⟩, 0)) ∨ (encF a.T = ([], 51) ∧ idF a.T = (zeroKey, 51)) ∨ (encF a.T = ([], 1) ∧ idF a.T = (zeroKey, 1)) by
        rcases encF_cases a.T with ⟨h, h1⟩ | h1 | h1
        · exact .inl ⟨h, h1, by unfold idF; rw [h1]; rfl⟩
        · exact .inr (.inl ⟨h1, by unfold idF; rw [h1]; rfl⟩)
        · exact .inr (.inr ⟨h1, by unfold idF; rw [h1]; rfl⟩)) with ⟨hok, he, hi⟩ | ⟨he, hi⟩ | ⟨he, hi⟩
      · have HOK := Lib.hid hok
        have HD := Lib.hid (fun W => refDouble_any ⟨(txB a.T).toArray⟩ (by rw [mkb_size]; have := txB_le hok; omega) W)
        obtain ⟨nm, hnm⟩ : ∃ nm, (⟨dblL (txB a.T), dblL_len _⟩ : K32) = nm := ⟨_, rfl⟩
        have HNM := Lib.hid (show bytesA (dblL (txB a.T)) = (encK nm).toArray by rw [← hnm, encK_arr])
        rw [hnm] at hi
        clear hok hnm
        rw [he]
        have HI := Lib.hid hi
        unfold encV
        clear he hi
        go_wp2_with (first | ((with_reducible refine at_loadg 2 ?_); refine tyTx.wpList_load (by rfl) (.tmp 2) rfl w.heap.size 0 rfl a (by simpa using RowC.of_blk ST.out.ka) ?_) | ((with_reducible refine at_loadg 3 ?_); refine tyTx.wpList_load (by rfl) (.tmp 3) rfl (w.heap.size + 1) 0 rfl b (by simpa using RowC.of_blk ST.out.kb) ?_))
        refine (encA_any b _ ST.out.ib).mono ?_
        rintro e w2 ⟨rfl, hb⟩
        have ST' := Lib.hid (ST.out.call hb)
        clear hb
        clear ST; have ST := ST'; clear ST'
        obtain ⟨⟨sb, fb⟩, hfb⟩ : ∃ q, encF b.T = q := ⟨_, rfl⟩
        rw [hfb]
        have HFB := Lib.hid hfb
        clear hfb
        unfold encV
        go_wp2_with (first | ((with_reducible refine at_loadg 2 ?_); refine tyTx.wpList_load (by rfl) (.tmp 2) rfl w.heap.size 0 rfl a (by simpa using RowC.of_blk ST.out.ka) ?_) | ((with_reducible refine at_loadg 3 ?_); refine tyTx.wpList_load (by rfl) (.tmp 3) rfl (w.heap.size + 1) 0 rfl b (by simpa using RowC.of_blk ST.out.kb) ?_))
        refine (id_any a _ ST.out.ia (HR.out.below ST.out.below l0 l1)).mono ?_
        rintro e w3 ⟨rfl, hb⟩
        have ST' := Lib.hid (ST.out.call hb)
        clear hb
        clear ST; have ST := ST'; clear ST'
        rw [HI.out]
        unfold idV
        go_wp2_with ((with_reducible refine at_store 9 35 ?_); refine tyKc.wpList_store rfl (.tmp 9) (.tmp 35) rfl rfl w3.heap.size nm rfl rfl 26 _ (Blk.new w3 _ _) rfl ?_; intro w4 o4 b4
                     have KN := Lib.hid b4
                     have ST' := Lib.hid (ST.out.call (((Below.refl w3.heap.size w3).alloc (Nat.le_refl _) _).trans (o4.below (by simp))))
                     clear b4 o4
                     clear ST; have ST := ST'; clear ST')
        refine wp_region_from (by kernel_rfl) (by kernel_rfl) ?_
        repeat (first
          | go_big_quiet_skip
          | ((with_reducible refine at_qload 9 ?_); refine tyKy.wpQuiet_load (by rfl) (.tmp 9) rfl w3.heap.size 0 rfl nm (fun _ hC => RowC.of_blk (below_blk hC.below KN.out KN.out.lt)) ?_; simp only [Act.put, List.setIfInBounds_toArray, List.set_cons_succ, List.set_cons_zero])
          | ((with_reducible refine at_qneq 44 46 ?_); refine wpQuiet_neq_row (by rfl) 26 26 (.tmp 44) (.tmp 46) rfl (encK nm).toArray (bytesA (dblL (txB a.T))) rfl rfl (by kernel_rfl) true (fun V => by rw [HNM.out]; exact (eqKy_run _ _ V).trans (by simp)) ?_; simp only [Act.put, List.setIfInBounds_toArray, List.set_cons_succ, List.set_cons_zero])
          | (go_big_quiet_want; go_big_quiet_op; refine ⟨_, fun _ _ => by with_reducible rfl, ?_⟩; go_big_quiet_on)
          | go_big_quiet_step ((intro hC; go_at_call 17; with_reducible exact (HD.out _).mono fun _ _ h => ⟨h.1, hC.call h.2⟩)))
        refine wpQuiet_nil ?_
        intro w5 hC
        have ST' := Lib.hid (ST.out.call hC.below)
        clear hC KN
        clear ST; have ST := ST'; clear ST'
        rcases encF_cases b.T with ⟨hokb, hb⟩ | hb | hb
        · obtain ⟨rfl, rfl⟩ : sb = txB b.T ∧ fb = 0 := by have h := HFB.out.symm.trans hb; simpa using h
          obtain ⟨q, hq⟩ : ∃ q, decide (txB a.T = txB b.T) = q := ⟨_, rfl⟩
          have SF := Lib.hid ((txB_same HOK.out hokb).symm.trans hq)
          clear hb hokb HFB HD HNM HI
          cases q with
          | true =>
            rw [← of_decide_eq_true hq]
            clear hq
            go_wp2_with (first | ((with_reducible refine at_loadg 2 ?_); refine tyTx.wpList_load (by rfl) (.tmp 2) rfl w.heap.size 0 rfl a (by simpa using RowC.of_blk ST.out.ka) ?_) | ((with_reducible refine at_loadg 3 ?_); refine tyTx.wpList_load (by rfl) (.tmp 3) rfl (w.heap.size + 1) 0 rfl b (by simpa using RowC.of_blk ST.out.kb) ?_))
            refine (same_any a b _ ST.out.ia ST.out.ib).mono ?_
            rintro e w6 ⟨rfl, hb⟩
            have ST' := Lib.hid (ST.out.call hb)
            clear hb
            clear ST; have ST := ST'; clear ST'
            rw [SF.out]
            go_wp2
            go_ret
            exact ⟨rfl, ST.out.below⟩
          | false =>
            obtain ⟨l1, hl1⟩ : ∃ l, txB a.T = l := ⟨_, rfl⟩
            obtain ⟨l2, hl2⟩ : ∃ l, txB b.T = l := ⟨_, rfl⟩
            rw [hl1, hl2] at hq ⊢
            have hne : l1 ≠ l2 := by simpa using hq
            have hbe : (l1 == l2) = false := by simpa using hne
            clear hq hne hl1 hl2
            go_wp2_with (first | ((with_reducible refine at_loadg 2 ?_); refine tyTx.wpList_load (by rfl) (.tmp 2) rfl w.heap.size 0 rfl a (by simpa using RowC.of_blk ST.out.ka) ?_) | ((with_reducible refine at_loadg 3 ?_); refine tyTx.wpList_load (by rfl) (.tmp 3) rfl (w.heap.size + 1) 0 rfl b (by simpa using RowC.of_blk ST.out.kb) ?_))
            refine (same_any a b _ ST.out.ia ST.out.ib).mono ?_
            rintro e w6 ⟨rfl, hb⟩
            have ST' := Lib.hid (ST.out.call hb)
            clear hb
            clear ST; have ST := ST'; clear ST'
            rw [SF.out]
            go_wp2
            go_ret
            exact ⟨rfl, ST.out.below⟩
        · obtain ⟨rfl, rfl⟩ : sb = [] ∧ fb = 51 := by have h := HFB.out.symm.trans hb; simpa using h
          clear hb HFB
          go_wp2
          go_ret
          exact ⟨rfl, ST.out.below⟩
        · obtain ⟨rfl, rfl⟩ : sb = [] ∧ fb = 1 := by have h := HFB.out.symm.trans hb; simpa using h
          clear hb HFB
          go_wp2
          go_ret
          exact ⟨rfl, ST.out.below⟩
      · skip
        rw [he]
        have HI := Lib.hid hi
        unfold encV
        clear he hi
        go_wp2_with (first | ((with_reducible refine at_loadg 2 ?_); refine tyTx.wpList_load (by rfl) (.tmp 2) rfl w.heap.size 0 rfl a (by simpa using RowC.of_blk ST.out.ka) ?_) | ((with_reducible refine at_loadg 3 ?_); refine tyTx.wpList_load (by rfl) (.tmp 3) rfl (w.heap.size + 1) 0 rfl b (by simpa using RowC.of_blk ST.out.kb) ?_))
        refine (encA_any b _ ST.out.ib).mono ?_
        rintro e w2 ⟨rfl, hb⟩
        have ST' := Lib.hid (ST.out.call hb)
        clear hb
        clear ST; have ST := ST'; clear ST'
        obtain ⟨⟨sb, fb⟩, hfb⟩ : ∃ q, encF b.T = q := ⟨_, rfl⟩
        rw [hfb]
        have HFB := Lib.hid hfb
        clear hfb
        unfold encV
        go_wp2_with (first | ((with_reducible refine at_loadg 2 ?_); refine tyTx.wpList_load (by rfl) (.tmp 2) rfl w.heap.size 0 rfl a (by simpa using RowC.of_blk ST.out.ka) ?_) | ((with_reducible refine at_loadg 3 ?_); refine tyTx.wpList_load (by rfl) (.tmp 3) rfl (w.heap.size + 1) 0 rfl b (by simpa using RowC.of_blk ST.out.kb) ?_))
        refine (id_any a _ ST.out.ia (HR.out.below ST.out.below l0 l1)).mono ?_
        rintro e w3 ⟨rfl, hb⟩
        have ST' := Lib.hid (ST.out.call hb)
        clear hb
        clear ST; have ST := ST'; clear ST'
        rw [HI.out]
        unfold idV
        go_wp2_with ((with_reducible refine at_store 9 35 ?_); refine tyKc.wpList_store rfl (.tmp 9) (.tmp 35) rfl rfl w3.heap.size zeroKey rfl rfl 26 _ (Blk.new w3 _ _) rfl ?_; intro w4 o4 b4
                     have KN := Lib.hid b4
                     have ST' := Lib.hid (ST.out.call (((Below.refl w3.heap.size w3).alloc (Nat.le_refl _) _).trans (o4.below (by simp))))
                     clear b4 o4
                     clear ST; have ST := ST'; clear ST')
        refine wp_region_from (by kernel_rfl) (by kernel_rfl) ?_
        repeat (first
          | go_big_quiet_skip
          | ((with_reducible refine at_qload 9 ?_); refine tyKy.wpQuiet_load (by rfl) (.tmp 9) rfl w3.heap.size 0 rfl zeroKey (fun _ hC => RowC.of_blk (below_blk hC.below KN.out KN.out.lt)) ?_; simp only [Act.put, List.setIfInBounds_toArray, List.set_cons_succ, List.set_cons_zero])
          | ((with_reducible refine at_qneq 54 55 ?_); refine wpQuiet_neq_row (by rfl) 26 26 (.tmp 54) (.tmp 55) rfl (encK zeroKey).toArray (encK zeroKey).toArray rfl (congrArg Value.agg lit32k) (by kernel_rfl) true (fun V => (eqKy_run _ _ V).trans (by simp)) ?_; simp only [Act.put, List.setIfInBounds_toArray, List.set_cons_succ, List.set_cons_zero])
          | (go_big_quiet_want; go_big_quiet_op; refine ⟨_, fun _ _ => by with_reducible rfl, ?_⟩; go_big_quiet_on)
          | go_big_quiet_step (fail))
        refine wpQuiet_nil ?_
        intro w5 hC
        have ST' := Lib.hid (ST.out.call hC.below)
        clear hC KN
        clear ST; have ST := ST'; clear ST'
        go_wp2
        go_ret
        exact ⟨rfl, ST.out.below⟩
      · skip
        rw [he]
        have HI := Lib.hid hi
        unfold encV
        clear he hi
        go_wp2_with (first | ((with_reducible refine at_loadg 2 ?_); refine tyTx.wpList_load (by rfl) (.tmp 2) rfl w.heap.size 0 rfl a (by simpa using RowC.of_blk ST.out.ka) ?_) | ((with_reducible refine at_loadg 3 ?_); refine tyTx.wpList_load (by rfl) (.tmp 3) rfl (w.heap.size + 1) 0 rfl b (by simpa using RowC.of_blk ST.out.kb) ?_))
        refine (encA_any b _ ST.out.ib).mono ?_
        rintro e w2 ⟨rfl, hb⟩
        have ST' := Lib.hid (ST.out.call hb)
        clear hb
        clear ST; have ST := ST'; clear ST'
        obtain ⟨⟨sb, fb⟩, hfb⟩ : ∃ q, encF b.T = q := ⟨_, rfl⟩
        rw [hfb]
        have HFB := Lib.hid hfb
        clear hfb
        unfold encV
        go_wp2_with (first | ((with_reducible refine at_loadg 2 ?_); refine tyTx.wpList_load (by rfl) (.tmp 2) rfl w.heap.size 0 rfl a (by simpa using RowC.of_blk ST.out.ka) ?_) | ((with_reducible refine at_loadg 3 ?_); refine tyTx.wpList_load (by rfl) (.tmp 3) rfl (w.heap.size + 1) 0 rfl b (by simpa using RowC.of_blk ST.out.kb) ?_))
        refine (id_any a _ ST.out.ia (HR.out.below ST.out.below l0 l1)).mono ?_
        rintro e w3 ⟨rfl, hb⟩
        have ST' := Lib.hid (ST.out.call hb)
        clear hb
        clear ST; have ST := ST'; clear ST'
        rw [HI.out]
        unfold idV
        go_wp2_with ((with_reducible refine at_store 9 35 ?_); refine tyKc.wpList_store rfl (.tmp 9) (.tmp 35) rfl rfl w3.heap.size zeroKey rfl rfl 26 _ (Blk.new w3 _ _) rfl ?_; intro w4 o4 b4
                     have KN := Lib.hid b4
                     have ST' := Lib.hid (ST.out.call (((Below.refl w3.heap.size w3).alloc (Nat.le_refl _) _).trans (o4.below (by simp))))
                     clear b4 o4
                     clear ST; have ST := ST'; clear ST')
        refine wp_region_from (by kernel_rfl) (by kernel_rfl) ?_
        repeat (first
          | go_big_quiet_skip
          | ((with_reducible refine at_qload 9 ?_); refine tyKy.wpQuiet_load (by rfl) (.tmp 9) rfl w3.heap.size 0 rfl zeroKey (fun _ hC => RowC.of_blk (below_blk hC.below KN.out KN.out.lt)) ?_; simp only [Act.put, List.setIfInBounds_toArray, List.set_cons_succ, List.set_cons_zero])
          | ((with_reducible refine at_qneq 54 55 ?_); refine wpQuiet_neq_row (by rfl) 26 26 (.tmp 54) (.tmp 55) rfl (encK zeroKey).toArray (encK zeroKey).toArray rfl (congrArg Value.agg lit32k) (by kernel_rfl) true (fun V => (eqKy_run _ _ V).trans (by simp)) ?_; simp only [Act.put, List.setIfInBounds_toArray, List.set_cons_succ, List.set_cons_zero])
          | (go_big_quiet_want; go_big_quiet_op; refine ⟨_, fun _ _ => by with_reducible rfl, ?_⟩; go_big_quiet_on)
          | go_big_quiet_step (fail))
        refine wpQuiet_nil ?_
        intro w5 hC
        have ST' := Lib.hid (ST.out.call hC.below)
        clear hC KN
        clear ST; have ST := ST'; clear ST'
        go_wp2
        go_ret
        exact ⟨rfl, ST.out.below⟩
end Go.Proofs.YtgcopgnkfokphaaDoor
