/- Layer 21: the law's shown; TemplateBase's walk. Written by genTmA.py. -/
import Derived.Test.YtimhophelecmjaaTmA
import Derived.Test.YtimhophelecmjaaTxId
namespace Go.Proofs.Ytimhophelecmjaa
open Go.RowKit
theorem base_cells {a : TxA} {z : IntV .u32} {k : K32} {v : IntV .i64} {W : World} {B : Nat} (hT : a.T = bT z [(v, k)] [] []) (h : a.In W B) :
    (∃ g o, a.Ai = some ⟨g, o, none⟩ ∧ g < B ∧ RowC W g o (encKI .u32 ((zeroKey, z) : PtC))) ∧ (∃ g o, a.Ao = some ⟨g, o, none⟩ ∧ g < B ∧ RowC W g o (encIK .i64 (v, k))) := by
  have e1 : a.T.ins = [(zeroKey, z)] := by rw [hT]; rfl
  have e2 : a.T.outs = [(v, k)] := by rw [hT]; rfl
  have h1 := h.ins
  have h2 := h.outs
  rw [e1] at h1
  rw [e2] at h2
  obtain ⟨g, o, hA, hg, hc⟩ := h1.at (encKI_len _) (i := 0) (by simp)
  obtain ⟨p, q, hB, hp, hd⟩ := h2.at (encIK_len _) (i := 0) (by simp)
  exact ⟨⟨g, o, hA, hg, by simpa using hc⟩, ⟨p, q, hB, hp, by simpa using hd⟩⟩
theorem tb_ok (z : IntV .u32) (k : K32) (v : IntV .i64) : OkTx (bT z [(v, k)] [] []) := bT_ok z _ [] [] (by simp) (by decide) (by decide)
theorem tb_id (z : IntV .u32) (k : K32) (v : IntV .i64) : ∃ q : K32, idF (bT z [(v, k)] [] []) = (q, 0) := by
  rcases idF_cases (bT z [(v, k)] [] []) with ⟨_, _, h⟩ | ⟨er, h0, h1, _⟩
  · exact ⟨_, h⟩
  · rw [encF_ok _ (tb_ok z k v)] at h1
    exact absurd (congrArg Prod.snd h1).symm h0
theorem tb_size (z : IntV .u32) (k : K32) (v : IntV .i64) : cosSize (bT z [(v, k)] [] []) = 92 := by
  unfold cosSize
  rw [encF_ok _ (tb_ok z k v), txB_len _ (tb_ok z k v)]
  rfl
theorem tb_check (z : IntV .u32) (k : K32) (v : IntV .i64) (h0 : 0 ≤ v.1) (h1 : v.1 ≤ 2100000000000000) : checkF (bT z [(v, k)] [] []) true = 0 := by
  refine checkF_ok (by rw [encF_ok _ (tb_ok z k v)]) ?_ ?_ ?_ ?_
  · rfl
  · unfold coinBad
    rw [bT_coin]
    rfl
  · show (!(decide ([(zeroKey, z)] : List PtC).Nodup) || !(decide ([] : List K32).Nodup)) = false
    simp
  · have e : (sumO 0 [v.1]).isNone = false := by
      have e2 : addO (0 : Int) v.1 = some v.1 := by
        unfold addO mayB
        simp
        omega
      simp only [sumO, e2]
      rfl
    show ((sumO 0 [v.1]).isNone || balF (bT z [(v, k)] [] [])) = false
    rw [e]
    rfl
theorem tb_same (n m : IntV .u32) (k : K32) (v : IntV .i64) (h : n.1 ≠ m.1) : sameF (bT n [(v, k)] [] []) (bT m [(v, k)] [] []) = false := by
  rw [sameF_parts]
  have e : decide ((bT n [(v, k)] [] []).ins = (bT m [(v, k)] [] []).ins) = false := by
    refine decide_eq_false fun q => h ?_
    have q' : ([(zeroKey, n)] : List PtC) = [(zeroKey, m)] := q
    injection q' with q1 _
    exact congrArg (fun x : PtC => x.2.1) q1
  rw [e]
  simp
def k5 : K32 := ⟨5 :: List.replicate 31 0, by simp⟩
set_option maxRecDepth 20000 in
set_option maxHeartbeats 8000000 in
theorem tshown_any (w : World) : Calls Try.prog 10 #[] w fun e w' => e = .returned (.bool true) ∧ Below w.heap.size w w' := by
  have hw3 : IntKind.i64.wrap (5000000 + 3) = (⟨5000003, by decide⟩ : IntV .i64).1 := by decide
  have HB := Lib.hid (fun W => pBase_t ⟨7, by decide⟩ k5 3 ⟨5000003, by decide⟩ W hw3)
  clear hw3
  go_enter Try.func10, Try.ntmps10
  go_wp2_with ((with_reducible refine at_build 2 ?_); try refine wpList_unguard (by rfl) ?_; refine wpList_built rfl 24 #[(0, .const (.int .u8 5))] rfl (encK k5).toArray (by kernel_rfl) ?_)
  refine (HB.out _).mono ?_
  rintro e w1 ⟨a, rfl, hT, ia, b1⟩
  obtain ⟨⟨gi, oi, hAi, hgi, ci⟩, ⟨go, oo, hAo, hgo, co⟩⟩ := base_cells hT ia
  have HT := Lib.hid hT
  have HAI := Lib.hid (And.intro hAi hAo)
  have HG := Lib.hid (And.intro hgi hgo)
  have CI := Lib.hid ci.ki_int
  have CO := Lib.hid co.ik_int
  have B1 := Lib.hid b1
  clear hT hAi hAo hgi hgo ci co b1 ia
  go_wp2_with (first
    | ((with_reducible refine at_store 1 3 ?_); refine tyTx.wpList_store rfl (.tmp 1) (.tmp 3) rfl rfl w1.heap.size a rfl rfl 29 _ (Blk.new w1 29 _) rfl ?_; intro w2 o2 b2
       have E2 := Lib.hid (show Below w1.heap.size w1 w2 from ((Below.refl w1.heap.size w1).alloc (Nat.le_refl _) _).trans (o2.below (by simp)))
       have c1 : w2.cell? ⟨w1.heap.size, 1, none⟩ = some (.slice (some ⟨gi, oi, none⟩) 1 a.ci) := by have := TxA.c1 (RowC.of_blk b2); rw [HT.out, HAI.out.1] at this; exact this
       have c2 : w2.cell? ⟨w1.heap.size, 2, none⟩ = some (.slice (some ⟨go, oo, none⟩) 1 a.co) := by have := TxA.c2 (RowC.of_blk b2); rw [HT.out, HAI.out.2] at this; exact this
       have c3 : w2.cell? ⟨gi, oi + 32, none⟩ = some (.int .u32 7) := (E2.out.cell HG.out.1).trans CI.out
       have c4 : w2.cell? ⟨go, oo, none⟩ = some (.int .i64 5000003) := (E2.out.cell HG.out.2).trans CO.out
       have B2 := Lib.hid (B1.out.trans (E2.out.mono B1.out.size))
       clear o2 b2 B1 E2))
  go_ret
  exact ⟨rfl, B2.out⟩
set_option maxRecDepth 20000 in
set_option maxHeartbeats 8000000 in
theorem tmBase_walk (n : IntV .u32) (k : K32) (f : IntV .u32) (w : World) : Calls Try.prog 3 #[.int .u32 n.1, .agg (encK k).toArray, .int .u32 f.1] w fun e w' => e = .returned (.bool true) ∧ Below w.heap.size w w' := by
  have hfr := wf_u32r f
  have hnr := wf_u32r n
  have hcv : IntKind.i64.wrap f.1 = f.1 := by rw [IntKind.wrap_i64]; omega
  obtain ⟨v, hv, hv2⟩ : ∃ v : IntV .i64, IntKind.i64.wrap (5000000 + f.1) = v.1 ∧ v.1 = 5000000 + f.1 := ⟨⟨5000000 + f.1, wf_i64.2 (by omega)⟩, by show _ = 5000000 + f.1; rw [IntKind.wrap_i64]; omega, rfl⟩
  obtain ⟨m, hm, hm2⟩ : ∃ m : IntV .u32, IntKind.u32.wrap (n.1 + 1) = m.1 ∧ n.1 ≠ m.1 := by
    refine ⟨⟨(n.1 + 1) % 4294967296, wf_u32.2 (by omega)⟩, by rw [IntKind.wrap_u32], ?_⟩
    show n.1 ≠ (n.1 + 1) % 4294967296
    omega
  obtain ⟨k1, hk1⟩ := tb_id n k v
  obtain ⟨k2, hk2⟩ := tb_id m k v
  have BA := Lib.hid (fun W => pBase_t n k f.1 v W hv)
  have BB := Lib.hid (fun W => pBase_t m k f.1 v W hv)
  have IA := Lib.hid (show ∀ (a : TxA) (W : World), a.T = bT n [(v, k)] [] [] → a.In W W.heap.size → Calls Try.prog 5 #[.agg a.cells.toArray] W fun e w' => e = .returned (.tuple #[.agg (encK k1).toArray, .int .i64 0]) ∧ Below W.heap.size W w' from fun a W h1 h2 => by
    have h3 := refId_any a W h2
    rw [h1, hk1] at h3
    exact h3)
  have IB := Lib.hid (show ∀ (a : TxA) (W : World), a.T = bT m [(v, k)] [] [] → a.In W W.heap.size → Calls Try.prog 5 #[.agg a.cells.toArray] W fun e w' => e = .returned (.tuple #[.agg (encK k2).toArray, .int .i64 0]) ∧ Below W.heap.size W w' from fun a W h1 h2 => by
    have h3 := refId_any a W h2
    rw [h1, hk2] at h3
    exact h3)
  have D1 := Lib.hid (show ∀ (a : TxA) (W : World), a.T = bT n [(v, k)] [] [] → a.In W W.heap.size → Calls Try.prog 6 #[.agg a.cells.toArray] W fun e w' => e = .returned (.bool true) ∧ Below W.heap.size W w' from fun a W h1 h2 => by
    have h3 := refCoin_any a W h2
    rw [h1, bT_coin] at h3
    exact h3)
  have D2 := Lib.hid (show ∀ (a : TxA) (W : World), a.T = bT n [(v, k)] [] [] → a.In W W.heap.size → Calls Try.prog 7 #[.agg a.cells.toArray, .bool true] W fun e w' => e = .returned (.int .i64 0) ∧ Below W.heap.size W w' from fun a W h1 h2 => by
    have h3 := rCheck_k a true W h2 (by rw [h1]; exact ⟨Nat.le_of_ble_eq_true rfl, Nat.le_of_ble_eq_true rfl, Nat.le_of_ble_eq_true rfl, Nat.le_of_ble_eq_true rfl⟩)
    rw [h1, tb_check n k v (by omega) (by omega)] at h3
    exact h3)
  have D3 := Lib.hid (show ∀ (a b : TxA) (W : World), a.T = bT n [(v, k)] [] [] → b.T = bT m [(v, k)] [] [] → a.In W W.heap.size → b.In W W.heap.size → Calls Try.prog 8 #[.agg a.cells.toArray, .agg b.cells.toArray] W fun e w' => e = .returned (.bool false) ∧ Below W.heap.size W w' from fun a b W h1 h2 h3 h4 => by
    have h5 := refSame_any a b W h3 h4
    rw [h1, h2, tb_same n m k v hm2] at h5
    exact h5)
  have D4 := Lib.hid (show ∀ (a : TxA) (W : World), a.T = bT n [(v, k)] [] [] → a.In W W.heap.size → Calls Try.prog 9 #[.agg a.cells.toArray] W fun e w' => e = .returned (.int .i64 92) ∧ Below W.heap.size W w' from fun a W h1 h2 => by
    have h3 := rSize_w a W h2
    rw [h1, tb_size] at h3
    exact h3)
  have H0 := Lib.hid (show Holds w [(w.heap.size, 24, (encK k).toArray)] (w.alloc (.cells (encK k).toArray 24)) from (Holds.nil w).box 24 (encK k).toArray)
  clear hk1 hk2 hm2 hfr hnr hv2
  go_enter Try.func3, Try.ntmps3
  go_wp2_with (first
    | ((with_reducible refine at_load 4 ?_); refine tyKc.wpList_load rfl (.tmp 4) rfl (w.heap.size) 0 rfl k (RowC.of_blk (H0.out.at (x := (w.heap.size, 24, (encK k).toArray)) (by simp))) ?_))
  refine (BA.out _).mono ?_
  rintro e w1 ⟨a, rfl, ta, ia, b1⟩
  have H1 := Lib.hid (H0.out.call b1)
  have TA := Lib.hid ta
  have I1 := Lib.hid ia
  clear b1 ta ia H0 BA
  go_wp2_with (first
    | ((with_reducible refine at_store 7 17 ?_); refine tyTx.wpList_store rfl (.tmp 7) (.tmp 17) rfl rfl w1.heap.size a rfl rfl 29 _ (Blk.new w1 29 _) rfl ?_; intro w2 oq bq
       have H2 := Lib.hid (show Holds w [(w1.heap.size, 29, a.cells.toArray), (w.heap.size, 24, (encK k).toArray)] w2 from H1.out.put oq bq)
       have EQw2 := Lib.hid (show Below w1.heap.size w1 w2 from ((Below.refl w1.heap.size w1).alloc (Nat.le_refl _) _).trans (oq.below (by simp)))
       clear oq bq)
    | ((with_reducible refine at_load 7 ?_); refine tyTx.wpList_load rfl (.tmp 7) rfl (w1.heap.size) 0 rfl a (RowC.of_blk (H2.out.at (x := (w1.heap.size, 29, a.cells.toArray)) (by simp))) ?_))
  have I2 := Lib.hid (I1.out.on EQw2.out (Nat.le_refl _))
  refine (IA.out a _ TA.out I2.out).mono ?_
  rintro e w3 ⟨rfl, b3⟩
  have H3 := Lib.hid (H2.out.call b3)
  have I3 := Lib.hid (I2.out.on b3 (Nat.le_refl _))
  clear b3 H1 H2 I1 I2 EQw2 IA
  go_wp2_with (first
    | ((with_reducible refine at_store 8 21 ?_); refine tyKc.wpList_store rfl (.tmp 8) (.tmp 21) rfl rfl w3.heap.size k1 rfl rfl 24 _ (Blk.new w3 24 _) rfl ?_; intro w4 oq bq
       have H4 := Lib.hid (show Holds w [(w3.heap.size, 24, (encK k1).toArray), (w1.heap.size, 29, a.cells.toArray), (w.heap.size, 24, (encK k).toArray)] w4 from H3.out.put oq bq)
       have EQw4 := Lib.hid (show Below w3.heap.size w3 w4 from ((Below.refl w3.heap.size w3).alloc (Nat.le_refl _) _).trans (oq.below (by simp)))
       clear oq bq)
    | ((with_reducible refine at_load 4 ?_); refine tyKc.wpList_load rfl (.tmp 4) rfl (w.heap.size) 0 rfl k (RowC.of_blk (H4.out.at (x := (w.heap.size, 24, (encK k).toArray)) (by simp))) ?_))
  have I4 := Lib.hid (I3.out.on EQw4.out (Nat.le_refl _))
  refine (BB.out _).mono ?_
  rintro e w5 ⟨b, rfl, tb, ib, b5⟩
  have H5 := Lib.hid (H4.out.call b5)
  have TB := Lib.hid tb
  have I5 := Lib.hid (I4.out.on b5 (Nat.le_refl _))
  have J5 := Lib.hid ib
  clear b5 tb ib H3 H4 I3 I4 EQw4 BB
  go_wp2_with (first
    | ((with_reducible refine at_store 10 28 ?_); refine tyTx.wpList_store rfl (.tmp 10) (.tmp 28) rfl rfl w5.heap.size b rfl rfl 29 _ (Blk.new w5 29 _) rfl ?_; intro w6 oq bq
       have H6 := Lib.hid (show Holds w [(w5.heap.size, 29, b.cells.toArray), (w3.heap.size, 24, (encK k1).toArray), (w1.heap.size, 29, a.cells.toArray), (w.heap.size, 24, (encK k).toArray)] w6 from H5.out.put oq bq)
       have EQw6 := Lib.hid (show Below w5.heap.size w5 w6 from ((Below.refl w5.heap.size w5).alloc (Nat.le_refl _) _).trans (oq.below (by simp)))
       clear oq bq)
    | ((with_reducible refine at_load 10 ?_); refine tyTx.wpList_load rfl (.tmp 10) rfl (w5.heap.size) 0 rfl b (RowC.of_blk (H6.out.at (x := (w5.heap.size, 29, b.cells.toArray)) (by simp))) ?_))
  have I6 := Lib.hid (I5.out.on EQw6.out (Nat.le_refl _))
  have J6 := Lib.hid (J5.out.on EQw6.out (Nat.le_refl _))
  refine (IB.out b _ TB.out J6.out).mono ?_
  rintro e w7 ⟨rfl, b7⟩
  have H7 := Lib.hid (H6.out.call b7)
  have I7 := Lib.hid (I6.out.on b7 (Nat.le_refl _))
  have J7 := Lib.hid (J6.out.on b7 (Nat.le_refl _))
  clear b7 H5 H6 I5 I6 J5 J6 EQw6 IB
  go_wp2_with (first
    | ((with_reducible refine at_store 11 32 ?_); refine tyKc.wpList_store rfl (.tmp 11) (.tmp 32) rfl rfl w7.heap.size k2 rfl rfl 24 _ (Blk.new w7 24 _) rfl ?_; intro w8 oq bq
       have H8 := Lib.hid (show Holds w [(w7.heap.size, 24, (encK k2).toArray), (w5.heap.size, 29, b.cells.toArray), (w3.heap.size, 24, (encK k1).toArray), (w1.heap.size, 29, a.cells.toArray), (w.heap.size, 24, (encK k).toArray)] w8 from H7.out.put oq bq)
       have EQw8 := Lib.hid (show Below w7.heap.size w7 w8 from ((Below.refl w7.heap.size w7).alloc (Nat.le_refl _) _).trans (oq.below (by simp)))
       clear oq bq))
  have I8 := Lib.hid (I7.out.on EQw8.out (Nat.le_refl _))
  have J8 := Lib.hid (J7.out.on EQw8.out (Nat.le_refl _))
  clear H7 I7 J7 EQw8
  obtain ⟨⟨gi, oi, hAi, hgi, ci⟩, ⟨go, oo, hAo, hgo, co⟩⟩ := base_cells TA.out I8.out
  have RA := Lib.hid (show ∀ W, From w8 W → RowC W w1.heap.size 0 a.cells from fun W hC => RowC.of_blk (below_blk hC.below (H8.out.at (x := (w1.heap.size, 29, a.cells.toArray)) (by simp)) (H8.out.at (x := (w1.heap.size, 29, a.cells.toArray)) (by simp)).lt))
  have RB := Lib.hid (show ∀ W, From w8 W → RowC W w5.heap.size 0 b.cells from fun W hC => RowC.of_blk (below_blk hC.below (H8.out.at (x := (w5.heap.size, 29, b.cells.toArray)) (by simp)) (H8.out.at (x := (w5.heap.size, 29, b.cells.toArray)) (by simp)).lt))
  have RK := Lib.hid (show ∀ W, From w8 W → RowC W w.heap.size 0 (encK k) from fun W hC => RowC.of_blk (below_blk hC.below (H8.out.at (x := (w.heap.size, 24, (encK k).toArray)) (by simp)) (H8.out.at (x := (w.heap.size, 24, (encK k).toArray)) (by simp)).lt))
  have R2 := Lib.hid (show ∀ W, From w8 W → W.cell? ⟨w1.heap.size, 2, none⟩ = some (.slice (some ⟨go, oo, none⟩) 1 a.co) from fun W hC => by have := TxA.c2 (RA.out W hC); rw [TA.out, hAo] at this; exact this)
  have RV := Lib.hid (show ∀ W, From w8 W → W.cell? ⟨go, oo, none⟩ = some (.int .i64 v.1) from fun W hC => (co.below hC.below hgo).ik_int)
  have RL := Lib.hid (show ∀ W, From w8 W → RowC W go (oo + 1) (encK k) from fun W hC => (co.below hC.below hgo).ik_key)
  have HIA := Lib.hid (show ∀ W, From w8 W → a.In W W.heap.size from fun W hC => I8.out.on hC.below (Nat.le_refl _))
  have HIB := Lib.hid (show ∀ W, From w8 W → b.In W W.heap.size from fun W hC => J8.out.on hC.below (Nat.le_refl _))
  have C1 := Lib.hid (fun W (hC : From w8 W) => D1.out a W TA.out (HIA.out W hC))
  have C2 := Lib.hid (fun W (hC : From w8 W) => D2.out a W TA.out (HIA.out W hC))
  have C3 := Lib.hid (fun W (hC : From w8 W) => D3.out a b W TA.out TB.out (HIA.out W hC) (HIB.out W hC))
  have C4 := Lib.hid (fun W (hC : From w8 W) => D4.out a W TA.out (HIA.out W hC))
  have C5 := Lib.hid (fun W (_ : From w8 W) => tshown_any W)
  clear hAi hAo hgi hgo ci co D1 D2 D3 D4 I8 J8
  go_wp2_with fail
  refine wp_region_from (by kernel_rfl) (by kernel_rfl) ?_
  repeat (first
    | go_big_quiet_skip
    | ((with_reducible refine at_qload 7 ?_); refine tyTx.wpQuiet_load (by rfl) (.tmp 7) rfl (w1.heap.size) 0 rfl a (RA.out) ?_; simp only [Act.put, List.setIfInBounds_toArray, List.set_cons_succ, List.set_cons_zero])
    | ((with_reducible refine at_qload 10 ?_); refine tyTx.wpQuiet_load (by rfl) (.tmp 10) rfl (w5.heap.size) 0 rfl b (RB.out) ?_; simp only [Act.put, List.setIfInBounds_toArray, List.set_cons_succ, List.set_cons_zero])
    | ((with_reducible refine at_qload 42 ?_); refine wpQuiet_load_one (by rfl) 26 (.tmp 42) rfl ⟨w1.heap.size, 2, none⟩ rfl (.slice (some ⟨go, oo, none⟩) 1 a.co) Try.isAgg26 (R2.out) ?_; simp only [Act.put, List.setIfInBounds_toArray, List.set_cons_succ, List.set_cons_zero])
    | ((with_reducible refine at_qload 53 ?_); refine wpQuiet_load_one (by rfl) 26 (.tmp 53) rfl ⟨w1.heap.size, 2, none⟩ rfl (.slice (some ⟨go, oo, none⟩) 1 a.co) Try.isAgg26 (R2.out) ?_; simp only [Act.put, List.setIfInBounds_toArray, List.set_cons_succ, List.set_cons_zero])
    | ((with_reducible refine at_qload 45 ?_); refine wpQuiet_load_one (by rfl) 2 (.tmp 45) rfl ⟨go, oo, none⟩ rfl (.int .i64 v.1) Try.isAgg2 (RV.out) ?_; simp only [Act.put, List.setIfInBounds_toArray, List.set_cons_succ, List.set_cons_zero])
    | ((with_reducible refine at_qload 56 ?_); refine tyKc.wpQuiet_load (by rfl) (.tmp 56) rfl go (oo + 1) rfl k RL.out ?_; simp only [Act.put, List.setIfInBounds_toArray, List.set_cons_succ, List.set_cons_zero])
    | ((with_reducible refine at_qload 4 ?_); refine tyKc.wpQuiet_load (by rfl) (.tmp 4) rfl w.heap.size 0 rfl k RK.out ?_; simp only [Act.put, List.setIfInBounds_toArray, List.set_cons_succ, List.set_cons_zero])
    | ((with_reducible refine at_qeql 57 58 ?_); refine wpQuiet_eql_row (by rfl) 24 24 (.tmp 57) (.tmp 58) rfl (encK k).toArray (encK k).toArray rfl rfl (by kernel_rfl) true (fun V => (eqKy_run _ _ V).trans (by simp)) ?_; simp only [Act.put, List.setIfInBounds_toArray, List.set_cons_succ, List.set_cons_zero])
    | (go_big_quiet_want; go_big_quiet_op; refine ⟨_, fun _ _ => by with_reducible rfl, ?_⟩; go_big_quiet_on)
    | go_big_quiet_step ((intro hC; first
        | (go_at_call 6; with_reducible exact (C1.out _ hC).mono fun _ _ h => ⟨h.1, hC.call h.2⟩)
        | (go_at_call 7; with_reducible exact (C2.out _ hC).mono fun _ _ h => ⟨h.1, hC.call h.2⟩)
        | (go_at_call 8; with_reducible exact (C3.out _ hC).mono fun _ _ h => ⟨h.1, hC.call h.2⟩)
        | (go_at_call 9; with_reducible exact (C4.out _ hC).mono fun _ _ h => ⟨h.1, hC.call h.2⟩)
        | (go_at_call 10; with_reducible exact (C5.out _ hC).mono fun _ _ h => ⟨h.1, hC.call h.2⟩))))
  refine wpQuiet_nil ?_
  intro w9 hC
  have B9 := Lib.hid (H8.out.below.trans (hC.below.mono H8.out.below.size))
  clear hC
  go_wp2_with fail
  go_ret
  exact ⟨by first | rfl | simp, B9.out⟩
end Go.Proofs.Ytimhophelecmjaa
