/- TxBack: what was encoded is decoded, with what is behind it; its beginnings are none: the statement's walk. -/
import Derived.Test.YtgcopgnkfokphaaLTxOne
namespace Go.Proofs.Ytgcopgnkfokphaa
open Go.RowKit
theorem ok_of_enc {T : TxV} (h : encF T = (txB T, 0)) : OkTx T := by
  rcases encF_cases T with h' | h' | h'
  · exact h'.1
  · rw [h'] at h; simp at h
  · rw [h'] at h; simp at h
theorem below_step {a b c : World} (h : Below a.heap.size a b) (k : Below b.heap.size b c) : Below a.heap.size a c := h.trans (k.mono h.size)
theorem take_str (s : List UInt8) (i : Nat) (hi : i ≤ s.length) (W : World) : (Instr.slice 9 (.string ⟨s.toArray⟩) none (some (.int .i64 (i : Int))) none).run Try.prog W = .ok (.string ⟨(s.take i).toArray⟩) W := by
  rw [run_slice_string_to_if W 9 _ .i64 _ Try.underlying9, if_pos ⟨by omega, by simp [ByteArray.size]; omega⟩]
  congr 2
  apply bytes_ext
  simp [ByteArray.extract, ByteArray.copySlice]
set_option maxRecDepth 20000 in
set_option maxHeartbeats 1000000 in
theorem txback_walk (a : TxA) (rest : ByteArray) (cut : Int) (w : World) (h : a.In w w.heap.size) (_hs : rest.size ≤ maxLen) (hcut : (Lit.int .u16 cut).wf = true) :
    Calls Try.prog 4 #[.agg a.cells.toArray, .string rest, .int .u16 cut] w fun e w' => e = .returned (.bool true) ∧ Below w.heap.size w w' := by
  clear _hs
  obtain ⟨r, rfl, hrl⟩ := str_list rest
  clear hrl
  have hcu : 0 ≤ cut ∧ cut ≤ 65535 := by simpa [Lit.wf, IntKind.min, IntKind.max, IntKind.signed, IntKind.bits] using hcut
  obtain ⟨m, rfl⟩ : ∃ m : Nat, cut = m := ⟨cut.toNat, by omega⟩
  have HB := Lib.hid (show RowC (w.alloc (.cells a.cells.toArray 30)) w.heap.size 0 a.cells from RowC.of_blk (Blk.new _ _ _))
  have HIn := Lib.hid h
  clear h hcut
  obtain ⟨hv, hhv⟩ : ∃ b, heavyF a.T = b := ⟨_, rfl⟩
  have hH := Lib.hid hhv
  clear hhv
  by_cases hbad : hv = true ∨ 200 < r.length
  · rcases hbad with rfl | h2
    · clear hcu
      go_enter Try.func4, Try.ntmps4
      go_wp2_with ((with_reducible refine at_load 3 ?_); refine tyTx.wpList_load rfl (.tmp 3) rfl w.heap.size 0 rfl a HB.out ?_)
      refine (heavyA_any a _).mono ?_
      rintro e w1 ⟨rfl, b1⟩
      rw [hH.out]
      go_wp2_with fail
      refine (xshown_any _).mono ?_
      rintro e w2 ⟨rfl, b2⟩
      have B2 := ((Below.refl w.heap.size w).alloc (Nat.le_refl _) _).trans ((b1.mono (by simp)).trans (b2.mono (by have := b1.size; simp at this; omega)))
      go_wp2
      go_ret
      exact ⟨rfl, B2⟩
    · have hd : decide ((200 : Int) < r.length) = true := by simp; omega
      clear hcu h2
      cases hv
      all_goals
        go_enter Try.func4, Try.ntmps4
        go_wp2_with ((with_reducible refine at_load 3 ?_); refine tyTx.wpList_load rfl (.tmp 3) rfl w.heap.size 0 rfl a HB.out ?_)
        refine (heavyA_any a _).mono ?_
        rintro e w1 ⟨rfl, b1⟩
        rw [hH.out]
        go_wp2_with fail
        refine (xshown_any _).mono ?_
        rintro e w2 ⟨rfl, b2⟩
        have B2 := ((Below.refl w.heap.size w).alloc (Nat.le_refl _) _).trans ((b1.mono (by simp)).trans (b2.mono (by have := b1.size; simp at this; omega)))
        go_wp2
        go_ret
        exact ⟨rfl, B2⟩
  obtain rfl : hv = false := by cases hv <;> simp_all
  have hd : decide ((200 : Int) < r.length) = false := by simp at hbad ⊢; omega
  have hr2 : r.length ≤ 200 := by simp at hbad; omega
  clear hbad
  go_enter Try.func4, Try.ntmps4
  go_wp2_with ((with_reducible refine at_load 3 ?_); refine tyTx.wpList_load rfl (.tmp 3) rfl w.heap.size 0 rfl a HB.out ?_)
  refine (heavyA_any a _).mono ?_
  rintro e w1 ⟨rfl, b1⟩
  rw [hH.out]
  go_wp2_with fail
  refine (xshown_any _).mono ?_
  rintro e w2 ⟨rfl, b2⟩
  have z1 : w.heap.size < w1.heap.size := by have := b1.size; simp at this; omega
  have B2 := Lib.hid (((Below.refl w.heap.size w).alloc (Nat.le_refl _) (.cells a.cells.toArray 30)).trans ((b1.mono (by simp)).trans (b2.mono (Nat.le_of_lt z1))))
  have K2 := Lib.hid (below_blk b2 (below_blk b1 (Blk.new w 30 a.cells.toArray) (by simp)) z1)
  have HI := Lib.hid (HIn.out.on B2.out (Nat.le_refl _))
  clear HB HIn b1 b2 z1
  go_wp2_with ((with_reducible refine at_load 3 ?_); refine tyTx.wpList_load rfl (.tmp 3) rfl w.heap.size 0 rfl a (by simpa using RowC.of_blk K2.out) ?_)
  refine (encA_any a _ HI.out).mono ?_
  rintro e w3 ⟨rfl, b3⟩
  have l2 : w.heap.size < w2.heap.size := K2.out.lt
  have B3 := Lib.hid (B2.out.trans (b3.mono B2.out.size))
  have K3 := Lib.hid (below_blk b3 K2.out l2)
  have HI3 := Lib.hid (HI.out.on b3 (Nat.le_refl _))
  clear b3 B2 K2 HI l2
  rcases encF_cases a.T with ⟨hok, he⟩ | he | he
  · rw [he]
    have hlen := txB_len a.T hok
    have hS1 : 16 ≤ (txB a.T).length := by omega
    have hS2 : (txB a.T).length ≤ 6000 := by
      obtain ⟨o1, o2, o3, o4, _⟩ := hok
      split at hlen <;> omega
    have R1 := readTx_put a.T r hok
    have D1 := decTx_put a.T hok
    have D2 := decTx_cut a.T hok
    have D3 := decTx_more a.T hok 120
    obtain ⟨S, hS⟩ : ∃ S, txB a.T = S := ⟨_, rfl⟩
    rw [hS] at hS1 hS2 R1 D1 D2 D3 ⊢
    have hadd1 : ∀ V, (Op.stringOp .add ⟨S.toArray⟩ ⟨r.toArray⟩).run Try.prog V = .ok (.string ⟨(S ++ r).toArray⟩) V := fun V => run_string_add_lists V _ _ (by omega) (by omega)
    have hadd2 : ∀ V, (Op.stringOp .add ⟨S.toArray⟩ ⟨#[120]⟩).run Try.prog V = .ok (.string ⟨(S ++ [120]).toArray⟩) V := fun V => run_string_add_lists V S [120] (by omega) (by simp)
    have C1 := Lib.hid (fun w => R1 ▸ read_r (S ++ r) (by rw [List.length_append]; omega) w)
    have C2 := Lib.hid (fun w => D1 ▸ dec_r S (by omega) w)
    have C3 := Lib.hid (fun i (hi : i < S.length) w => D2 i hi ▸ dec_r (S.take i) (by rw [List.length_take]; omega) w)
    have C4 := Lib.hid (fun w => D3 ▸ dec_r (S ++ [120]) (by rw [List.length_append]; simp; omega) w)
    have HOK := Lib.hid hok
    obtain ⟨i, hi⟩ : ∃ i : Nat, m % S.length = i := ⟨_, rfl⟩
    have hil : i < S.length := by rw [← hi]; exact Nat.mod_lt _ (by omega)
    have hmod : (m : Int) % (S.length : Int) = i := by rw [← hi]; exact (Int.natCast_emod m S.length).symm
    have hsl : ∀ W, (Instr.slice 9 (.string ⟨S.toArray⟩) none (some (.int .i64 (i : Int))) none).run Try.prog W = .ok (.string ⟨(S.take i).toArray⟩) W := take_str S i (by omega)
    have HIL := Lib.hid hil
    clear hlen hok he R1 D1 D2 D3 hS hi
    unfold encV
    go_wp2_with fail
    refine (C1.out _).mono ?_
    rintro e w4 ⟨⟨x, hx, rfl, tlx⟩, b4⟩
    have HX := Lib.hid hx
    have T4 := Lib.hid b4
    have IX := Lib.hid (show x.In w4 w4.heap.size from tlx.inn (hx ▸ HOK.out))
    clear hx b4 tlx
    go_wp2_with ((with_reducible refine at_store 9 52 ?_); refine tyTx.wpList_store rfl (.tmp 9) (.tmp 52) rfl rfl w4.heap.size x rfl rfl 30 _ (Blk.new w4 _ _) rfl ?_; intro w5 o b; have K5 := Lib.hid b; have T5 := Lib.hid (((Below.refl w4.heap.size w4).alloc (Nat.le_refl _) _).trans (o.below (by simp))); clear b o)
    refine (C2.out _).mono ?_
    rintro e w6 ⟨⟨y, hy, rfl, tly⟩, b6⟩
    have HY := Lib.hid hy
    have T6 := Lib.hid b6
    have IY := Lib.hid (show y.In w6 w6.heap.size from tly.inn (hy ▸ HOK.out))
    clear hy b6 tly
    go_wp2_with ((with_reducible refine at_store 12 58 ?_); refine tyTx.wpList_store rfl (.tmp 12) (.tmp 58) rfl rfl w6.heap.size y rfl rfl 30 _ (Blk.new w6 _ _) rfl ?_; intro w7 o b; have K7 := Lib.hid b; have T7 := Lib.hid (((Below.refl w6.heap.size w6).alloc (Nat.le_refl _) _).trans (o.below (by simp))); clear b o)
    refine (C3.out i HIL.out _).mono ?_
    rintro e w8 ⟨⟨z, hz, rfl, tlz⟩, b8⟩
    have T8 := Lib.hid b8
    clear hz b8 tlz
    go_wp2_with ((with_reducible refine at_store 14 69 ?_); refine tyTx.wpList_store rfl (.tmp 14) (.tmp 69) rfl rfl w8.heap.size z rfl rfl 30 _ (Blk.new w8 _ _) rfl ?_; intro w9 o b; have K9 := Lib.hid b; have T9 := Lib.hid (((Below.refl w8.heap.size w8).alloc (Nat.le_refl _) _).trans (o.below (by simp))); clear b o)
    refine (C4.out _).mono ?_
    rintro e w10 ⟨⟨v, hv, rfl, tlv⟩, b10⟩
    have T10 := Lib.hid b10
    clear hv b10 tlv
    have KA := Lib.hid (below_step (below_step T4.out T5.out) (below_step (below_step T6.out T7.out) (below_step (below_step T8.out T9.out) T10.out)))
    have KX := Lib.hid (below_step T5.out (below_step (below_step T6.out T7.out) (below_step (below_step T8.out T9.out) T10.out)))
    have KY := Lib.hid (below_step T7.out (below_step (below_step T8.out T9.out) T10.out))
    have SX := Lib.hid (show sameF x.T a.T = true from (sameF_iff _ _).2 HX.out)
    have SY := Lib.hid (show sameF y.T a.T = true from (sameF_iff _ _).2 HY.out)
    go_wp2_with (first
      | ((with_reducible refine at_store 16 75 ?_); refine tyTx.wpList_store rfl (.tmp 16) (.tmp 75) rfl rfl w10.heap.size v rfl rfl 30 _ (Blk.new w10 _ _) rfl ?_; intro w11 o b
         have T11 := Lib.hid (((Below.refl w10.heap.size w10).alloc (Nat.le_refl _) _).trans (o.below (by simp)))
         have QA := Lib.hid (below_blk (below_step KA.out T11.out) K3.out K3.out.lt)
         have QX := Lib.hid (below_blk (below_step T6.out (below_step KY.out T11.out)) K5.out K5.out.lt)
         have QY := Lib.hid (below_blk (below_step T8.out (below_step T9.out (below_step T10.out T11.out))) K7.out K7.out.lt)
         have JA := Lib.hid (HI3.out.on (below_step KA.out T11.out) (Nat.le_refl _))
         have JX := Lib.hid (IX.out.on (below_step KX.out T11.out) (Nat.le_refl _))
         have JY := Lib.hid (IY.out.on (below_step KY.out T11.out) (Nat.le_refl _))
         have BB := Lib.hid (B3.out.trans ((below_step KA.out T11.out).mono B3.out.size))
         clear b o KA KX KY T4 T5 T6 T7 T8 T9 T10 T11 K3 K5 K7 HI3 IX IY B3)
      | ((with_reducible refine at_loadg 9 ?_); refine tyTx.wpList_load (by rfl) (.tmp 9) rfl w4.heap.size 0 rfl x (by simpa using RowC.of_blk QX.out) ?_)
      | ((with_reducible refine at_loadg 3 ?_); refine tyTx.wpList_load (by rfl) (.tmp 3) rfl w.heap.size 0 rfl a (by simpa using RowC.of_blk QA.out) ?_))
    refine (refSame_any x a _ JX.out JA.out).mono ?_
    rintro e w12 ⟨rfl, b12⟩
    rw [SX.out]
    have QA2 := Lib.hid (below_blk b12 QA.out QA.out.lt)
    have QY2 := Lib.hid (below_blk b12 QY.out QY.out.lt)
    have JA2 := Lib.hid (JA.out.on b12 (Nat.le_refl _))
    have JY2 := Lib.hid (JY.out.on b12 (Nat.le_refl _))
    have BB2 := Lib.hid (BB.out.trans (b12.mono BB.out.size))
    clear b12 QA QX QY JA JX JY BB
    go_wp2_with (first
      | ((with_reducible refine at_loadg 12 ?_); refine tyTx.wpList_load (by rfl) (.tmp 12) rfl w6.heap.size 0 rfl y (by simpa using RowC.of_blk QY2.out) ?_)
      | ((with_reducible refine at_loadg 3 ?_); refine tyTx.wpList_load (by rfl) (.tmp 3) rfl w.heap.size 0 rfl a (by simpa using RowC.of_blk QA2.out) ?_))
    refine (refSame_any y a _ JY2.out JA2.out).mono ?_
    rintro e w13 ⟨rfl, b13⟩
    rw [SY.out]
    have BB3 := Lib.hid (BB2.out.trans (b13.mono BB2.out.size))
    clear b13
    go_wp2
    go_ret
    exact ⟨rfl, BB3.out⟩
  · rw [he]
    unfold encV
    go_wp2
    go_ret
    exact ⟨rfl, B3.out⟩
  · rw [he]
    unfold encV
    go_wp2
    go_ret
    exact ⟨rfl, B3.out⟩
end Go.Proofs.Ytgcopgnkfokphaa
