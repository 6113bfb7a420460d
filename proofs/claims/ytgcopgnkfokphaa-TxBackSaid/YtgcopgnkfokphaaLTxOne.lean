/- TxOne: bytes that are decoded are what the transaction is encoded to: the statement's walk. -/
import Derived.Test.YtgcopgnkfokphaaTxD
import Derived.Test.YtgcopgnkfokphaaTxY
namespace Go.Proofs.Ytgcopgnkfokphaa
open Go.RowKit
theorem decTx_cases (l : List UInt8) : (∃ e, e ≠ 0 ∧ decTx l = (noTx, e)) ∨ ∃ T, decTx l = (T, 0) ∧ OkTx T ∧ txB T = l := by
  unfold decTx
  cases h : txR l with
  | error er => exact .inl ⟨er, by rcases errs_tx l er h with e | e | e <;> omega, rfl⟩
  | ok x =>
    obtain ⟨T, r⟩ := x
    cases r with
    | nil => exact .inr ⟨T, rfl, decTx_ok l T h⟩
    | cons b t => exact .inl ⟨50, by decide, rfl⟩
theorem str_list (s : ByteArray) : ∃ l : List UInt8, s = ⟨l.toArray⟩ ∧ l.length = s.size := ⟨s.data.toList, by cases s; simp only [Array.toArray_toList], ba_len s⟩
set_option maxRecDepth 20000 in
set_option maxHeartbeats 1000000 in
theorem txone_walk (s : ByteArray) (w : World) (_hs : s.size ≤ maxLen) :
    Calls Try.prog 5 #[.string s] w fun e w' => e = .returned (.bool true) ∧ Below w.heap.size w w' := by
  clear _hs
  obtain ⟨l, rfl, hl⟩ := str_list s
  clear hl
  by_cases h1 : 8192 < l.length
  · have hd : decide ((8192 : Int) < l.length) = true := by simp; omega
    go_enter Try.func5, Try.ntmps5
    go_wp2_with fail
    refine (xshown_any _).mono ?_
    rintro e w1 ⟨rfl, b1⟩
    go_wp2
    go_ret
    exact ⟨rfl, b1⟩
  have hd : decide ((8192 : Int) < l.length) = false := by simp; omega
  have hc := dec_r l (by omega)
  clear h1
  rcases decTx_cases l with ⟨er, he, hD⟩ | ⟨T, hD, hok, hT⟩
  · rw [hD] at hc
    have HC := Lib.hid hc
    have hde : (er == 0) = false := beq_eq_false_iff_ne.mpr he
    clear hD hc he
    go_enter Try.func5, Try.ntmps5
    go_wp2_with fail
    refine (xshown_any _).mono ?_
    rintro e w1 ⟨rfl, b1⟩
    go_wp2_with fail
    refine (HC.out _).mono ?_
    rintro e w2 ⟨⟨a, ha, rfl, tl⟩, b2⟩
    have B2 := Lib.hid (b1.trans (b2.mono b1.size))
    have HT := Lib.hid (show a.In w2 w2.heap.size from tl.inn (ha ▸ ok_no))
    have HA := Lib.hid (show sameF a.T aZ.T = true from (sameF_iff _ _).2 (ha.trans aZ_no.symm))
    clear b1 b2 ha tl HC
    go_wp2_with (first
      | ((with_reducible refine at_store 3 18 ?_); refine tyTx.wpList_store rfl (.tmp 3) (.tmp 18) rfl rfl w2.heap.size a rfl rfl 30 _ (Blk.new w2 _ _) rfl ?_; intro w3 o3 b3; have K3 := Lib.hid b3; have B3 := Lib.hid (((Below.refl w2.heap.size w2).alloc (Nat.le_refl _) _).trans (o3.below (by simp))); clear b3 o3)
      | ((with_reducible refine at_load 3 ?_); refine tyTx.wpList_load rfl (.tmp 3) rfl w2.heap.size 0 rfl a (by simpa using RowC.of_blk K3.out) ?_)
      | ((with_reducible refine at_build 23 ?_); refine wpList_built rfl 30 #[] rfl aZ.cells.toArray (by kernel_rfl) ?_))
    refine (refSame_any a aZ _ (HT.out.on B3.out (Nat.le_refl _)) ((tl_no _).inn (aZ_no ▸ ok_no))).mono ?_
    rintro e w4 ⟨rfl, b4⟩
    rw [HA.out]
    go_wp2
    go_ret
    exact ⟨rfl, B2.out.trans ((B3.out.mono B2.out.size).trans (b4.mono (Nat.le_trans B2.out.size B3.out.size)))⟩
  · rw [hD] at hc
    have HC := Lib.hid hc
    have HOK := Lib.hid hok
    have HTT := Lib.hid hT
    clear hD hc hok hT
    go_enter Try.func5, Try.ntmps5
    go_wp2_with fail
    refine (xshown_any _).mono ?_
    rintro e w1 ⟨rfl, b1⟩
    go_wp2_with fail
    refine (HC.out _).mono ?_
    rintro e w2 ⟨⟨a, rfl, rfl, tl⟩, b2⟩
    have B2 := Lib.hid (b1.trans (b2.mono b1.size))
    have HT := Lib.hid (show a.In w2 w2.heap.size from tl.inn HOK.out)
    have HE := Lib.hid (show encF a.T = (l, 0) by rw [encF_ok _ HOK.out, HTT.out])
    clear b1 b2 tl HC
    obtain ⟨r, hr⟩ : ∃ r, decide (a.T.anchor = zeroKey) = r := ⟨_, rfl⟩
    have HR := Lib.hid hr
    have hda : a.T.nulls.length = 0 → r = true := fun h => by rw [← hr]; simpa using HOK.out.2.2.2.2 h
    have HDA := Lib.hid hda
    clear hr hda
    by_cases h0 : a.T.nulls.length = 0
    · have hd0 : ((a.T.nulls.length : Int) == 0) = true := beq_iff_eq.mpr (by omega)
      obtain rfl := HDA.out h0
      clear h0
      go_wp2_with (first
        | ((with_reducible refine at_store 3 18 ?_); refine tyTx.wpList_store rfl (.tmp 3) (.tmp 18) rfl rfl w2.heap.size a rfl rfl 30 _ (Blk.new w2 _ _) rfl ?_; intro w3 o3 b3; have K3 := Lib.hid b3; have B3 := Lib.hid (((Below.refl w2.heap.size w2).alloc (Nat.le_refl _) _).trans (o3.below (by simp))); have c4 := TxA.c4 (show RowC w3 w2.heap.size 0 a.cells by simpa using RowC.of_blk b3); clear b3 o3)
        | ((with_reducible refine at_loadg 30 ?_); refine tyKy.wpList_load (by rfl) (.tmp 30) rfl w2.heap.size 3 rfl a.T.anchor (TxA.c3 (show RowC w3 w2.heap.size 0 a.cells by simpa using RowC.of_blk K3.out)) ?_)
        | ((with_reducible refine at_neqlg 31 32 ?_); refine wpList_neq_rowg (by rfl) 27 27 (.tmp 31) (.tmp 32) rfl (encK a.T.anchor).toArray (encK zeroKey).toArray rfl (congrArg Value.agg lit32k) (by kernel_rfl) true (fun V => (eqKy_run _ _ V).trans (by rw [HR.out])) ?_; simp only [Act.put, List.setIfInBounds_toArray, List.set_cons_succ, List.set_cons_zero])
        | ((with_reducible refine at_load 3 ?_); refine tyTx.wpList_load rfl (.tmp 3) rfl w2.heap.size 0 rfl a (by simpa using RowC.of_blk K3.out) ?_))
      refine (encA_any a _ (HT.out.on B3.out (Nat.le_refl _))).mono ?_
      rintro e w4 ⟨rfl, b4⟩
      rw [HE.out]
      unfold encV
      go_wp2
      go_ret
      exact ⟨rfl, B2.out.trans ((B3.out.mono B2.out.size).trans (b4.mono (Nat.le_trans B2.out.size B3.out.size)))⟩
    · have hd0 : ((a.T.nulls.length : Int) == 0) = false := beq_eq_false_iff_ne.mpr (by omega)
      clear h0
      go_wp2_with (first
        | ((with_reducible refine at_store 3 18 ?_); refine tyTx.wpList_store rfl (.tmp 3) (.tmp 18) rfl rfl w2.heap.size a rfl rfl 30 _ (Blk.new w2 _ _) rfl ?_; intro w3 o3 b3; have K3 := Lib.hid b3; have B3 := Lib.hid (((Below.refl w2.heap.size w2).alloc (Nat.le_refl _) _).trans (o3.below (by simp))); have c4 := TxA.c4 (show RowC w3 w2.heap.size 0 a.cells by simpa using RowC.of_blk b3); clear b3 o3)
        | ((with_reducible refine at_load 3 ?_); refine tyTx.wpList_load rfl (.tmp 3) rfl w2.heap.size 0 rfl a (by simpa using RowC.of_blk K3.out) ?_))
      refine (encA_any a _ (HT.out.on B3.out (Nat.le_refl _))).mono ?_
      rintro e w4 ⟨rfl, b4⟩
      rw [HE.out]
      unfold encV
      go_wp2
      go_ret
      exact ⟨rfl, B2.out.trans ((B3.out.mono B2.out.size).trans (b4.mono (Nat.le_trans B2.out.size B3.out.size)))⟩
end Go.Proofs.Ytgcopgnkfokphaa
