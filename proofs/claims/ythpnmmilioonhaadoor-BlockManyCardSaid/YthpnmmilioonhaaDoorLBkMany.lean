/- BlockMany: a block of nothing, or of too many, has no bytes; bytes that tell so are refused: the statement's walk. Written by genLM.py. -/
import Derived.Test.YthpnmmilioonhaaDoorLBkEnc
namespace Go.Proofs.YthpnmmilioonhaaDoor
open Go.RowKit
def mb (k : K32) (m : Nat) (A : Option Addr) : BkA := ⟨k, zeroKey, toU32 0, List.replicate m txN, A, m⟩
theorem built_M0 (t : TypeId) (ht : t = 27) (k : K32) (l : List TxA) (A : Option Addr) (c : Nat) : Tryd.prog.built t [(0, .agg (encK k).toArray), (3, .slice A l.length c)] = some (⟨k, zeroKey, toU32 0, l, A, c⟩ : BkA).cells.toArray := by
  subst ht
  obtain ⟨q, hq⟩ := k
  iterate 32 (rcases q with _ | ⟨b, q⟩; · simp at hq)
  rcases q with _ | ⟨b, q⟩
  · kernel_rfl
  · simp at hq
theorem built_M (t : TypeId) (ht : t = 27) (k : K32) (m : Nat) (A : Option Addr) : Tryd.prog.built t [(0, .agg (encK k).toArray), (3, .slice A m m)] = some (mb k m A).cells.toArray := by
  have := built_M0 t ht k (List.replicate m txN) A m
  rwa [List.length_replicate] at this
theorem mb_in {k : K32} {m g : Nat} {w : World} (h : Blk w g 32 (cellsOf TxA.cells (List.replicate m txN)).toArray) (hm : m ≤ 60 := by omega) : (mb k m (some ⟨g, 0, none⟩)).In w w.heap.size :=
  ⟨⟨by show (List.replicate m txN).length ≤ m; rw [List.length_replicate]; exact Nat.le_refl _, by show m ≤ maxLen; unfold maxLen; omega, fun _ => ⟨g, 0, rfl, h.lt, RowC.of_blk h⟩⟩, fun t ht => by
    obtain rfl : t = txN := List.eq_of_mem_replicate ht
    exact ⟨RowIn.nil (Nat.zero_le _), RowIn.nil (Nat.zero_le _), RowIn.nil (Nat.zero_le _), RowIn.nil (Nat.zero_le _)⟩⟩
theorem mb_txs (k : K32) (m : Nat) (A : Option Addr) : (mb k m A).B.txs = List.replicate m txN.T := by
  show (List.replicate m txN).map TxA.T = _
  rw [List.map_replicate]
theorem mb_mid (k : K32) (m : Nat) (A : Option Addr) (hm : m ≤ 60) : MidB (mb k m A).B := by
  unfold MidB
  rw [mb_txs]
  refine ⟨by rw [List.length_replicate]; exact hm, fun T hT => ?_⟩
  obtain rfl : T = txN.T := List.eq_of_mem_replicate hT
  decide +kernel
/-- what lies there: the key, the block of so many -/
structure BM (w0 w : World) (k : K32) (m g : Nat) (A : Option Addr) : Prop where
  below : Below w0.heap.size w0 w
  k3 : Blk w w0.heap.size 23 (encK k).toArray
  kb : Blk w g 27 (mb k m A).cells.toArray
  inn : (mb k m A).In w w.heap.size
theorem BM.call {w0 w w' : World} {k : K32} {m g : Nat} {A : Option Addr} (h : BM w0 w k m g A) (b : Below w.heap.size w w') : BM w0 w' k m g A :=
  ⟨h.below.trans (b.mono h.below.size), below_blk b h.k3 h.k3.lt, below_blk b h.kb h.kb.lt, h.inn.on b (Nat.le_refl _)⟩
theorem okN : OkTx txN.T := by
  have : encF txN.T = (txB txN.T, 0) := by decide +kernel
  rcases encF_cases txN.T with h | h | h
  · exact h.1
  · rw [h] at this; simp at this
  · rw [h] at this; simp at this
/-- what Encode answers to so many -/
theorem mb_enc (k : K32) (m : Nat) (A : Option Addr) : encBF (mb k m A).B = if m = 0 then ([], 110) else if 30 < m then ([], 51) else (blkB (mb k m A).B, 0) := by
  by_cases h0 : m = 0
  · rw [if_pos h0]
    unfold encBF
    rw [mb_txs, List.length_replicate, if_pos h0]
  · rw [if_neg h0]
    by_cases h3 : 30 < m
    · rw [if_pos h3]
      unfold encBF
      rw [mb_txs, List.length_replicate, if_neg h0, if_pos h3]
    · rw [if_neg h3]
      refine encBF_ok _ ⟨by rw [mb_txs, List.length_replicate]; omega, by rw [mb_txs, List.length_replicate]; omega, fun T hT => ?_⟩
      rw [mb_txs] at hT
      obtain rfl : T = txN.T := List.eq_of_mem_replicate hT
      exact okN
theorem mb_ok (k : K32) (m : Nat) (A : Option Addr) (h0 : m ≠ 0) (h3 : m ≤ 30) : OkBlk (mb k m A).B :=
  ⟨by rw [mb_txs, List.length_replicate]; omega, by rw [mb_txs, List.length_replicate]; omega, fun T hT => by
    rw [mb_txs] at hT
    obtain rfl : T = txN.T := List.eq_of_mem_replicate hT
    exact okN⟩
theorem sum_rep (m c : Nat) : (List.replicate m c).sum = m * c := by
  induction m with
  | zero => simp
  | succ m ih => rw [List.replicate_succ, List.sum_cons, ih, Nat.succ_mul]; omega
theorem mb_len (k : K32) (m : Nat) (A : Option Addr) (h0 : m ≠ 0) (h3 : m ≤ 30) : (blkB (mb k m A).B).length = 69 + 16 * m := by
  rw [blkB_len _ (mb_ok k m A h0 h3), mb_txs, List.map_replicate, show (txB txN.T).length = 16 by decide +kernel, sum_rep, Nat.mul_comm]
/-- the bytes ahead of none, or of too many -/
theorem head_dec (p r : K32) (z : IntV .u32) (n : Nat) (hn : n ≤ 1000) : (n = 0 → decBlk (headB p r z n) = .error 110) ∧ (30 < n → decBlk (headB p r z n) = .error 51) := by
  have e1 := good_key.fwd p (r.1 ++ (putL z.1.toNat 4 ++ cmpL n)) trivial
  have e2 := good_key.fwd r (putL z.1.toNat 4 ++ cmpL n) trivial
  have e3 := good_u32.fwd z (cmpL n) trivial
  have e4 := readF_cmp n [] (by omega)
  rw [List.append_nil] at e4
  refine ⟨fun h => ?_, fun h => ?_⟩
  · unfold decBlk headB
    simp only [blkR, mapR, thenR, e1, e2, e3, txsR, numB, e4]
    simp [h]
  · have h0 : n ≠ 0 := by omega
    unfold decBlk headB
    simp only [blkR, mapR, thenR, e1, e2, e3, txsR, numB, e4]
    simp [h, h0]
set_option maxRecDepth 20000 in
set_option maxHeartbeats 16000000 in
theorem bkmany_walk (HE : EncBOk) (HI : IdBOk) (HD : DecBOk) (n : Int) (k : K32) (w : World) (hn : (Lit.int .u8 n).wf = true) (hR : Roots w) :
    Calls Tryd.prog 4 #[.int .u8 n, .agg (encK k).toArray] w fun e w' => e = .returned (.bool true) ∧ Below w.heap.size w w' := by
  have HRt := Lib.hid hR
  clear hR
  have hcu : 0 ≤ n ∧ n ≤ 255 := by simpa [Lit.wf, IntKind.min, IntKind.max, IntKind.signed, IntKind.bits] using hn
  obtain ⟨n, rfl⟩ : ∃ m : Nat, n = m := ⟨n.toNat, by omega⟩
  clear hn
  obtain ⟨m, hm⟩ : ∃ m : Nat, n % 50 = m := ⟨_, rfl⟩
  have hmod : (n : Int) % 50 = m := by omega
  have hm5 : m ≤ 49 := by omega
  clear hm
  have hmk : ∀ W, (Instr.makeSlice 25 (.int .i64 (m : Int)) (.int .i64 (m : Int))).run Tryd.prog W = .ok (.slice (some ⟨W.heap.size, 0, none⟩) m m) (W.alloc (.cells (cellsOf TxA.cells (List.replicate m txN)).toArray 32)) := fun W => tyTxR.made W txN (.agg txN.cells.toArray) 144 (by kernel_rfl) rfl (by omega) .i64 .i64 m (by omega)
  have K3 := Lib.hid (Blk.new w 23 (encK k).toArray)
  have BB := Lib.hid ((Below.refl w.heap.size w).alloc (Nat.le_refl _) (.cells (encK k).toArray 23))
  go_enter Tryd.func4, Tryd.ntmps4
  go_wp2_with fail
  obtain ⟨w1, hw1⟩ : ∃ w1, w.alloc (.cells (encK k).toArray 23) = w1 := ⟨_, rfl⟩
  rw [hw1] at K3 BB ⊢
  rw [hmod]
  clear hw1
  go_cut [6] from 18 (fun vx wc => ∃ (g : Nat) (A : Option Addr), vx = .pointer (some ⟨g, 0, none⟩) ∧ Hid (BM w wc k m g A))
  case first =>
    refine wp_region_held_drew (S := From w1) (by kernel_rfl) (Below.refl _ _).drew ?_
    intro hS
    generalize w1.drew = wd at hS ⊢
    have hz := hS.below.size
    refine wpAnyH_take (i := 0) (v := .agg (encK k).toArray) rfl (by kernel_rfl) (by kernel_rfl) (by kernel_rfl) (fun _ _ _ h => h) (tyKc.yieldsIf_load (by rfl) (.tmp 3) rfl w.heap.size 0 rfl k (fun _ hW => by simpa using RowC.of_blk (below_blk hW.below K3.out K3.out.lt))) hS ?_
    simp only [Act.put, List.getElem_toArray, List.getElem_cons_zero, List.setIfInBounds_toArray, List.set_cons_succ, List.set_cons_zero]
    refine wpAnyH_take (i := 1) (v := .int .i64 (m : Int)) rfl (by kernel_rfl) (by kernel_rfl) (by kernel_rfl) (fun _ _ _ h => h) (Or.inl ⟨by rfl, fun W _ => by go_simp; try with_reducible rfl⟩) hS ?_
    simp only [Act.put, List.getElem_toArray, List.getElem_cons_zero, List.getElem_cons_succ, List.setIfInBounds_toArray, List.set_cons_succ, List.set_cons_zero]
    refine wpAnyH_ready (rs := [2, 4]) (by kernel_rfl) (by simp) ?_
    refine AllReadyH.cons rfl (fun Kq hK => ?_) (AllReadyH.cons rfl (fun Kq hK => ?_) AllReadyH.nil)
    · go_simp
      have fs := Blk.new wd 32 (cellsOf TxA.cells (List.replicate m txN)).toArray
      refine hK.out _ _ (hS.call ((Below.refl wd.heap.size wd).alloc (Nat.le_refl _) _)) (fun hS => ?_)
      clear hK Kq
      refine wpAnyH_take (i := 3) (v := .agg (mb k m (some ⟨wd.heap.size, 0, none⟩)).cells.toArray) rfl (by kernel_rfl) (by kernel_rfl) (by kernel_rfl) (fun _ _ _ h => h) (yieldsIf_build (by rfl) 27 #[(0, .tmp 18), (3, .tmp 20)] rfl _ ((congrArg (Tryd.prog.built 27) (show _ = [(0, Value.agg (encK k).toArray), (3, Value.slice (some ⟨wd.heap.size, 0, none⟩) m m)] by kernel_rfl)).trans (built_M _ rfl k m (some ⟨wd.heap.size, 0, none⟩)))) hS ?_
      simp only [Act.put, List.getElem_toArray, List.getElem_cons_zero, List.getElem_cons_succ, List.setIfInBounds_toArray, List.set_cons_succ, List.set_cons_zero]
      refine wpAnyH_ready (rs := [4]) (by kernel_rfl) (by simp) ?_
      refine AllReadyH.cons rfl (fun Kq hK => ?_) AllReadyH.nil
      go_simp
      have fb := Blk.new (wd.alloc (.cells (cellsOf TxA.cells (List.replicate m txN)).toArray 32)) 27 Tryd.zeroCells27
      have fs2 := fs.alloc (.cells Tryd.zeroCells27 27)
      simp only [World.size_alloc] at fb
      refine hK.out _ _ (hS.call ((Below.refl _ _).alloc (Nat.le_refl _) _)) (fun hS => ?_)
      clear hK Kq fs
      refine wpAnyH_ready (rs := [5]) (by kernel_rfl) (by simp) ?_
      refine AllReadyH.cons rfl (fun Kq hK => ?_) AllReadyH.nil
      refine step_store_arr rfl 27 (.tmp 6) (.tmp 21) rfl rfl (wd.heap.size + 1) (mb k m (some ⟨wd.heap.size, 0, none⟩)).cells.toArray rfl rfl 27 _ fb (by rw [tyBk.arr]; kernel_rfl) (by rw [tyBk.arr]; kernel_rfl) (by rw [List.all_toArray, List.all_eq_true]; exact tyBk.one _) ?_
      intro w3 o3 b3
      have hS3 : From w1 w3 := Below.trans hS.below (o3.below (by simp; omega))
      have f3 := o3.blk (fs2) (by simp)
      refine hK.out _ _ hS3 (fun hS => ?_)
      clear hK Kq hS3
      refine wpAnyH_done (by kernel_rfl) ?_ _
      go_wp2_with fail
      go_meet
      exact ⟨(wd.heap.size + 1), (some ⟨wd.heap.size, 0, none⟩), rfl, Lib.hid ⟨BB.out.trans (hS.below.mono BB.out.size), below_blk hS.below K3.out K3.out.lt, b3, mb_in f3⟩⟩
    · go_simp
      have fb := Blk.new wd 27 Tryd.zeroCells27
      refine hK.out _ _ (hS.call ((Below.refl wd.heap.size wd).alloc (Nat.le_refl _) _)) (fun hS => ?_)
      clear hK Kq
      refine wpAnyH_ready (rs := [2]) (by kernel_rfl) (by simp) ?_
      refine AllReadyH.cons rfl (fun Kq hK => ?_) AllReadyH.nil
      go_simp
      have fs := Blk.new (wd.alloc (.cells Tryd.zeroCells27 27)) 32 (cellsOf TxA.cells (List.replicate m txN)).toArray
      have fb2 := fb.alloc (.cells (cellsOf TxA.cells (List.replicate m txN)).toArray 32)
      simp only [World.size_alloc] at fs
      refine hK.out _ _ (hS.call ((Below.refl _ _).alloc (Nat.le_refl _) _)) (fun hS => ?_)
      clear hK Kq fb
      refine wpAnyH_take (i := 3) (v := .agg (mb k m (some ⟨wd.heap.size + 1, 0, none⟩)).cells.toArray) rfl (by kernel_rfl) (by kernel_rfl) (by kernel_rfl) (fun _ _ _ h => h) (yieldsIf_build (by rfl) 27 #[(0, .tmp 18), (3, .tmp 20)] rfl _ ((congrArg (Tryd.prog.built 27) (show _ = [(0, Value.agg (encK k).toArray), (3, Value.slice (some ⟨wd.heap.size + 1, 0, none⟩) m m)] by kernel_rfl)).trans (built_M _ rfl k m (some ⟨wd.heap.size + 1, 0, none⟩)))) hS ?_
      simp only [Act.put, List.getElem_toArray, List.getElem_cons_zero, List.getElem_cons_succ, List.setIfInBounds_toArray, List.set_cons_succ, List.set_cons_zero]
      refine wpAnyH_ready (rs := [5]) (by kernel_rfl) (by simp) ?_
      refine AllReadyH.cons rfl (fun Kq hK => ?_) AllReadyH.nil
      refine step_store_arr rfl 27 (.tmp 6) (.tmp 21) rfl rfl wd.heap.size (mb k m (some ⟨wd.heap.size + 1, 0, none⟩)).cells.toArray rfl rfl 27 _ fb2 (by rw [tyBk.arr]; kernel_rfl) (by rw [tyBk.arr]; kernel_rfl) (by rw [List.all_toArray, List.all_eq_true]; exact tyBk.one _) ?_
      intro w3 o3 b3
      have hS3 : From w1 w3 := Below.trans hS.below (o3.below (by simp; omega))
      have f3 := o3.blk (fs) (by simp)
      refine hK.out _ _ hS3 (fun hS => ?_)
      clear hK Kq hS3
      refine wpAnyH_done (by kernel_rfl) ?_ _
      go_wp2_with fail
      go_meet
      exact ⟨wd.heap.size, (some ⟨wd.heap.size + 1, 0, none⟩), rfl, Lib.hid ⟨BB.out.trans (hS.below.mono BB.out.size), below_blk hS.below K3.out K3.out.lt, b3, mb_in f3⟩⟩
  case rest =>
    obtain ⟨g, A, rfl, HX⟩ := hcut
    clear K3 BB hmk
    have HIB := Lib.hid (show idBF (mb k m A).B = idBF (mb k m A).B from rfl)
    have HLN := Lib.hid (show (headB k zeroKey (toU32 0) m).length ≤ 1000000 by unfold headB; have h1 := k.2; have h2 := zeroKey.2; have h3 := putL_len (toU32 0).1.toNat 4; have h4 : (cmpL m).length = 1 := (by unfold cmpL; rw [if_pos (by omega), putL_len]); simp only [List.length_append, h1, h2, h3, h4]; omega)
    obtain ⟨hd0, hd1⟩ := head_dec k zeroKey (toU32 0) m (by omega)
    have hen := mb_enc k m A
    clear HIB
    by_cases h0 : m = 0
    · have HEn := Lib.hid (show encBF (mb k m A).B = ([], 110) by rw [hen, if_pos h0])
      obtain ⟨kd, hkd⟩ : ∃ kd, kd = zeroKey := ⟨_, rfl⟩
      have HIn := Lib.hid (show idBF (mb k m A).B = (kd, 110) by unfold idBF; rw [HEn.out, hkd]; rfl)
      have HG := Lib.hid (show errI (decBlk (headB k zeroKey (toU32 0) m)) = 110 by rw [hd0 h0]; rfl)
      have hz : ((m : Int) == 0) = true := by rw [h0]; rfl
      have hg : decide ((30 : Int) < (m : Int)) = false := decide_eq_false (by omega)
      clear hen hkd hd0 hd1 h0 hmod
      go_wp2_with ((with_reducible refine at_load 6 ?_); refine tyBk.wpList_load rfl (.tmp 6) rfl g 0 rfl (mb k m A) (by simpa using RowC.of_blk HX.out.kb) ?_)
      refine (HE (mb k m A) _ HX.out.inn (mb_mid k m A (by omega))).mono ?_
      rintro e w2 ⟨rfl, bq⟩
      rw [HEn.out]
      have HX' := Lib.hid (HX.out.call bq)
      clear bq
      clear HX; have HX := HX'; clear HX'
      unfold encV
      go_wp2_with ((with_reducible refine at_load 6 ?_); refine tyBk.wpList_load rfl (.tmp 6) rfl g 0 rfl (mb k m A) (by simpa using RowC.of_blk HX.out.kb) ?_)
      refine (HI (mb k m A) _ HX.out.inn (mb_mid k m A (by omega)) (HRt.out.below HX.out.below HRt.out.lt0 HRt.out.lt1)).mono ?_
      rintro e w3 ⟨rfl, bq⟩
      rw [HIn.out]
      have HX' := Lib.hid (HX.out.call bq)
      clear bq
      clear HX; have HX := HX'; clear HX'
      unfold idV
      go_wp2_with (first
        | ((with_reducible refine at_store 9 30 ?_); refine tyKc.wpList_store rfl (.tmp 9) (.tmp 30) rfl rfl w3.heap.size kd rfl rfl 23 _ (Blk.new w3 _ _) rfl ?_; intro w4 o b
           have HX' := Lib.hid (HX.out.call (((Below.refl w3.heap.size w3).alloc (Nat.le_refl _) _).trans (o.below (by simp))))
           clear b o
           clear HX; have HX := HX'; clear HX')
        | ((with_reducible refine at_load 3 ?_); refine tyKc.wpList_load rfl (.tmp 3) rfl w.heap.size 0 rfl k (by simpa using RowC.of_blk HX.out.k3) ?_))
      refine (refHead_any k m (by omega) _).mono ?_
      rintro e w5 ⟨rfl, bq⟩
      have HX' := Lib.hid (HX.out.call bq)
      clear bq
      clear HX; have HX := HX'; clear HX'
      go_wp2_with fail
      refine (HD _ _ HLN.out).mono ?_
      rintro e w6 h6
      obtain ⟨x, hx, rfl, ix, bq⟩ := h6.got
      rw [HG.out]
      clear hx ix h6
      have HX' := Lib.hid (HX.out.call bq)
      clear bq
      clear HX; have HX := HX'; clear HX'
      go_wp2_with ((with_reducible refine at_store 13 42 ?_); refine tyBk.wpList_store rfl (.tmp 13) (.tmp 42) rfl rfl w6.heap.size x rfl rfl 27 _ (Blk.new w6 _ _) rfl ?_; intro w7 o b
                   have HX' := Lib.hid (HX.out.call (((Below.refl w6.heap.size w6).alloc (Nat.le_refl _) _).trans (o.below (by simp))))
                   clear b o
                   clear HX; have HX := HX'; clear HX')
      refine (bshown_any HE _).mono ?_
      rintro e w8 ⟨rfl, b8⟩
      go_wp2
      go_ret
      exact ⟨rfl, (HX.out.call b8).below⟩
    by_cases h3 : 30 < m
    · have HEn := Lib.hid (show encBF (mb k m A).B = ([], 51) by rw [hen, if_neg h0, if_pos h3])
      obtain ⟨kd, hkd⟩ : ∃ kd, kd = zeroKey := ⟨_, rfl⟩
      have HIn := Lib.hid (show idBF (mb k m A).B = (kd, 51) by unfold idBF; rw [HEn.out, hkd]; rfl)
      have HG := Lib.hid (show errI (decBlk (headB k zeroKey (toU32 0) m)) = 51 by rw [hd1 h3]; rfl)
      have hz : ((m : Int) == 0) = false := beq_eq_false_iff_ne.mpr (by omega)
      have hg : decide ((30 : Int) < (m : Int)) = true := decide_eq_true (by omega)
      clear hen hkd hd0 hd1 h0 h3 hmod
      go_wp2_with ((with_reducible refine at_load 6 ?_); refine tyBk.wpList_load rfl (.tmp 6) rfl g 0 rfl (mb k m A) (by simpa using RowC.of_blk HX.out.kb) ?_)
      refine (HE (mb k m A) _ HX.out.inn (mb_mid k m A (by omega))).mono ?_
      rintro e w2 ⟨rfl, bq⟩
      rw [HEn.out]
      have HX' := Lib.hid (HX.out.call bq)
      clear bq
      clear HX; have HX := HX'; clear HX'
      unfold encV
      go_wp2_with ((with_reducible refine at_load 6 ?_); refine tyBk.wpList_load rfl (.tmp 6) rfl g 0 rfl (mb k m A) (by simpa using RowC.of_blk HX.out.kb) ?_)
      refine (HI (mb k m A) _ HX.out.inn (mb_mid k m A (by omega)) (HRt.out.below HX.out.below HRt.out.lt0 HRt.out.lt1)).mono ?_
      rintro e w3 ⟨rfl, bq⟩
      rw [HIn.out]
      have HX' := Lib.hid (HX.out.call bq)
      clear bq
      clear HX; have HX := HX'; clear HX'
      unfold idV
      go_wp2_with (first
        | ((with_reducible refine at_store 9 30 ?_); refine tyKc.wpList_store rfl (.tmp 9) (.tmp 30) rfl rfl w3.heap.size kd rfl rfl 23 _ (Blk.new w3 _ _) rfl ?_; intro w4 o b
           have HX' := Lib.hid (HX.out.call (((Below.refl w3.heap.size w3).alloc (Nat.le_refl _) _).trans (o.below (by simp))))
           clear b o
           clear HX; have HX := HX'; clear HX')
        | ((with_reducible refine at_load 3 ?_); refine tyKc.wpList_load rfl (.tmp 3) rfl w.heap.size 0 rfl k (by simpa using RowC.of_blk HX.out.k3) ?_))
      refine (refHead_any k m (by omega) _).mono ?_
      rintro e w5 ⟨rfl, bq⟩
      have HX' := Lib.hid (HX.out.call bq)
      clear bq
      clear HX; have HX := HX'; clear HX'
      go_wp2_with fail
      refine (HD _ _ HLN.out).mono ?_
      rintro e w6 h6
      obtain ⟨x, hx, rfl, ix, bq⟩ := h6.got
      rw [HG.out]
      clear hx ix h6
      have HX' := Lib.hid (HX.out.call bq)
      clear bq
      clear HX; have HX := HX'; clear HX'
      go_wp2_with ((with_reducible refine at_store 13 42 ?_); refine tyBk.wpList_store rfl (.tmp 13) (.tmp 42) rfl rfl w6.heap.size x rfl rfl 27 _ (Blk.new w6 _ _) rfl ?_; intro w7 o b
                   have HX' := Lib.hid (HX.out.call (((Below.refl w6.heap.size w6).alloc (Nat.le_refl _) _).trans (o.below (by simp))))
                   clear b o
                   clear HX; have HX := HX'; clear HX')
      refine (bshown_any HE _).mono ?_
      rintro e w8 ⟨rfl, b8⟩
      go_wp2
      go_ret
      exact ⟨rfl, (HX.out.call b8).below⟩
    obtain ⟨S, hS⟩ : ∃ S, blkB (mb k m A).B = S := ⟨_, rfl⟩
    have hlen : S.length = 69 + 16 * m := by rw [← hS]; exact mb_len k m A h0 (by omega)
    have HEn := Lib.hid (show encBF (mb k m A).B = (S, 0) by rw [hen, if_neg h0, if_neg h3, hS])
    obtain ⟨kd, hkd⟩ : ∃ kd, kd = (⟨dblL S, dblL_len S⟩ : K32) := ⟨_, rfl⟩
    have HIn := Lib.hid (show idBF (mb k m A).B = (kd, 0) by unfold idBF; rw [HEn.out, hkd]; rfl)
    obtain ⟨ge, hge⟩ : ∃ ge, errI (decBlk (headB k zeroKey (toU32 0) m)) = ge := ⟨_, rfl⟩
    have HG := Lib.hid hge
    have hz : ((m : Int) == 0) = false := beq_eq_false_iff_ne.mpr (by omega)
    have hg : decide ((30 : Int) < (m : Int)) = false := decide_eq_false (by omega)
    have hw1 : IntKind.i64.wrap (16 * (m : Int)) = 16 * (m : Int) := by rw [IntKind.wrap_i64]; omega
    have hw2 : IntKind.i64.wrap (69 + 16 * (m : Int)) = (S.length : Int) := by rw [IntKind.wrap_i64]; omega
    clear hen hkd hd0 hd1 h0 h3 hmod hS hge
    go_wp2_with ((with_reducible refine at_load 6 ?_); refine tyBk.wpList_load rfl (.tmp 6) rfl g 0 rfl (mb k m A) (by simpa using RowC.of_blk HX.out.kb) ?_)
    refine (HE (mb k m A) _ HX.out.inn (mb_mid k m A (by omega))).mono ?_
    rintro e w2 ⟨rfl, bq⟩
    rw [HEn.out]
    have HX' := Lib.hid (HX.out.call bq)
    clear bq
    clear HX; have HX := HX'; clear HX'
    unfold encV
    go_wp2_with ((with_reducible refine at_load 6 ?_); refine tyBk.wpList_load rfl (.tmp 6) rfl g 0 rfl (mb k m A) (by simpa using RowC.of_blk HX.out.kb) ?_)
    refine (HI (mb k m A) _ HX.out.inn (mb_mid k m A (by omega)) (HRt.out.below HX.out.below HRt.out.lt0 HRt.out.lt1)).mono ?_
    rintro e w3 ⟨rfl, bq⟩
    rw [HIn.out]
    have HX' := Lib.hid (HX.out.call bq)
    clear bq
    clear HX; have HX := HX'; clear HX'
    unfold idV
    go_wp2_with (first
      | ((with_reducible refine at_store 9 30 ?_); refine tyKc.wpList_store rfl (.tmp 9) (.tmp 30) rfl rfl w3.heap.size kd rfl rfl 23 _ (Blk.new w3 _ _) rfl ?_; intro w4 o b
         have HX' := Lib.hid (HX.out.call (((Below.refl w3.heap.size w3).alloc (Nat.le_refl _) _).trans (o.below (by simp))))
         clear b o
         clear HX; have HX := HX'; clear HX')
      | ((with_reducible refine at_load 3 ?_); refine tyKc.wpList_load rfl (.tmp 3) rfl w.heap.size 0 rfl k (by simpa using RowC.of_blk HX.out.k3) ?_))
    refine (refHead_any k m (by omega) _).mono ?_
    rintro e w5 ⟨rfl, bq⟩
    have HX' := Lib.hid (HX.out.call bq)
    clear bq
    clear HX; have HX := HX'; clear HX'
    go_wp2_with fail
    refine (HD _ _ HLN.out).mono ?_
    rintro e w6 h6
    obtain ⟨x, hx, rfl, ix, bq⟩ := h6.got
    rw [HG.out]
    clear hx ix h6
    have HX' := Lib.hid (HX.out.call bq)
    clear bq
    clear HX; have HX := HX'; clear HX'
    go_wp2_with ((with_reducible refine at_store 13 42 ?_); refine tyBk.wpList_store rfl (.tmp 13) (.tmp 42) rfl rfl w6.heap.size x rfl rfl 27 _ (Blk.new w6 _ _) rfl ?_; intro w7 o b
                 have HX' := Lib.hid (HX.out.call (((Below.refl w6.heap.size w6).alloc (Nat.le_refl _) _).trans (o.below (by simp))))
                 clear b o
                 clear HX; have HX := HX'; clear HX')
    refine (bshown_any HE _).mono ?_
    rintro e w8 ⟨rfl, b8⟩
    go_wp2
    go_ret
    exact ⟨rfl, (HX.out.call b8).below⟩
theorem bkmany_all (HE : EncBOk) (HI : IdBOk) (HD : DecBOk) (n : Int) (s : List UInt8) (w : World) (hn : (Lit.int .u8 n).wf = true) (hs : s.length = 32) (hR : Roots w) :
    Calls Tryd.prog 4 #[.int .u8 n, .agg (bytesA s)] w fun e w' => e = .returned (.bool true) ∧ Below w.heap.size w w' :=
  bkmany_walk HE HI HD n ⟨s, hs⟩ w hn hR
end Go.Proofs.YthpnmmilioonhaaDoor
