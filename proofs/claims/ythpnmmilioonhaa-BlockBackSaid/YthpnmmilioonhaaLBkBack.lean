/- BlockBack: what was encoded is decoded; its beginnings are none, nor is more: the statement's walk. -/
import Derived.Test.YthpnmmilioonhaaLBkDec
namespace Go.Proofs.Ythpnmmilioonhaa
open Go.RowKit
theorem txB_sixB {T : TxV} (h : OkTx T) : (txB T).length ≤ 6000 := by
  have hlen := txB_len T h
  obtain ⟨o1, o2, o3, o4, _⟩ := h
  split at hlen <;> omega
theorem blkB_room {B : BlockV} (h : OkBlk B) : 69 ≤ (blkB B).length ∧ (blkB B).length ≤ 200000 := by
  have hlen := blkB_len B h
  have := sum_le (B.txs.map fun T => (txB T).length) 6000 (fun x hx => by
    obtain ⟨T, hT, rfl⟩ := List.mem_map.1 hx
    exact txB_sixB (h.2.2 T hT))
  rw [List.length_map] at this
  have := h.2.1
  omega
theorem take_strB (s : List UInt8) (i : Nat) (hi : i ≤ s.length) (W : World) : (Instr.slice 9 (.string ⟨s.toArray⟩) none (some (.int .i64 (i : Int))) none).run Try.prog W = .ok (.string ⟨(s.take i).toArray⟩) W := by
  rw [run_slice_string_to_if W 9 _ .i64 _ Try.underlying9, if_pos ⟨by omega, by simp [ByteArray.size]; omega⟩]
  congr 2
  apply bytes_ext
  simp [ByteArray.extract, ByteArray.copySlice]
/-- ahead of the law: heavy, and shown -/
structure BH (w0 w : World) (a : BkA) : Prop where
  below : Below w0.heap.size w0 w
  k : Blk w w0.heap.size 28 a.cells.toArray
  inn : a.In w w.heap.size
theorem BH.new {w0 : World} {a : BkA} (h : a.In w0 w0.heap.size) : BH w0 (w0.alloc (.cells a.cells.toArray 28)) a :=
  ⟨(Below.refl _ _).alloc (Nat.le_refl _) _, Blk.new _ _ _, h.on ((Below.refl _ _).alloc (Nat.le_refl _) _) (Nat.le_refl _)⟩
theorem BH.call {w0 w w' : World} {a : BkA} (h : BH w0 w a) (b : Below w.heap.size w w') : BH w0 w' a :=
  ⟨h.below.trans (b.mono h.below.size), below_blk b h.k h.k.lt, h.inn.on b (Nat.le_refl _)⟩
set_option maxRecDepth 20000 in
set_option maxHeartbeats 1000000 in
theorem bkback_walk (HE : EncBOk) (HD : DecBOk) (a : BkA) (cut : Int) (w : World) (h : a.In w w.heap.size) (hcut : (Lit.int .u16 cut).wf = true) :
    Calls Try.prog 4 #[.agg a.cells.toArray, .int .u16 cut] w fun e w' => e = .returned (.bool true) ∧ Below w.heap.size w w' := by
  have hcu : 0 ≤ cut ∧ cut ≤ 65535 := by simpa [Lit.wf, IntKind.min, IntKind.max, IntKind.signed, IntKind.bits] using hcut
  obtain ⟨m, rfl⟩ : ∃ m : Nat, cut = m := ⟨cut.toNat, by omega⟩
  have HB0 := Lib.hid (BH.new h)
  clear h hcut
  obtain ⟨hv, hhv⟩ : ∃ b, heavyB a.B = b := ⟨_, rfl⟩
  have hH := Lib.hid hhv
  clear hhv
  by_cases hbad : hv = true
  · subst hbad
    clear hcu
    go_enter Try.func4, Try.ntmps4
    go_wp2_with ((with_reducible refine at_load 2 ?_); refine tyBk.wpList_load rfl (.tmp 2) rfl w.heap.size 0 rfl a (by simpa using RowC.of_blk HB0.out.k) ?_)
    refine (heavyB_any a _ HB0.out.inn).mono ?_
    rintro e w1 ⟨rfl, b1⟩
    rw [hH.out]
    have HB1 := Lib.hid (HB0.out.call b1)
    clear b1 HB0
    go_wp2_with fail
    refine (bshown_any HE _).mono ?_
    rintro e w2 ⟨rfl, b2⟩
    go_wp2
    go_ret
    exact ⟨rfl, (HB1.out.call b2).below⟩
  obtain rfl : hv = false := by cases hv <;> simp_all
  clear hbad
  go_enter Try.func4, Try.ntmps4
  go_wp2_with ((with_reducible refine at_load 2 ?_); refine tyBk.wpList_load rfl (.tmp 2) rfl w.heap.size 0 rfl a (by simpa using RowC.of_blk HB0.out.k) ?_)
  refine (heavyB_any a _ HB0.out.inn).mono ?_
  rintro e w1 ⟨rfl, b1⟩
  rw [hH.out]
  have HB1 := Lib.hid (HB0.out.call b1)
  clear b1 HB0
  go_wp2_with fail
  refine (bshown_any HE _).mono ?_
  rintro e w2 ⟨rfl, b2⟩
  have HB2 := Lib.hid (HB1.out.call b2)
  clear b2 HB1
  go_wp2_with ((with_reducible refine at_load 2 ?_); refine tyBk.wpList_load rfl (.tmp 2) rfl w.heap.size 0 rfl a (by simpa using RowC.of_blk HB2.out.k) ?_)
  refine (HE a _ HB2.out.inn (midB_of hH.out)).mono ?_
  rintro e w3 ⟨rfl, b3⟩
  have HB3 := Lib.hid (HB2.out.call b3)
  clear b3 HB2
  rcases encBF_cases a.B with ⟨hok, he⟩ | ⟨er, he, her⟩
  · rw [he]
    obtain ⟨hS1, hS2⟩ := blkB_room hok
    have D1 := decBlk_put a.B hok
    have D2 := decBlk_cut a.B hok
    have D3 := decBlk_more a.B hok 120
    obtain ⟨S, hS⟩ : ∃ S, blkB a.B = S := ⟨_, rfl⟩
    rw [hS] at hS1 hS2 D1 D2 D3 ⊢
    have hadd2 : ∀ V, (Op.stringOp .add ⟨S.toArray⟩ ⟨#[120]⟩).run Try.prog V = .ok (.string ⟨(S ++ [120]).toArray⟩) V := fun V => run_string_add_lists V S [120] (by omega) (by simp)
    have C1 := Lib.hid (fun w => D1 ▸ HD S w (by omega))
    have C2 := Lib.hid (fun i (hi : i < S.length) w => D2 i hi ▸ HD (S.take i) w (by rw [List.length_take]; omega))
    have C3 := Lib.hid (fun w => D3 ▸ HD (S ++ [120]) w (by rw [List.length_append]; simp; omega))
    obtain ⟨i, hi⟩ : ∃ i : Nat, m % S.length = i := ⟨_, rfl⟩
    have hil : i < S.length := by rw [← hi]; exact Nat.mod_lt _ (by omega)
    have hmod : (m : Int) % (S.length : Int) = i := by rw [← hi]; exact (Int.natCast_emod m S.length).symm
    have hsl : ∀ W, (Instr.slice 9 (.string ⟨S.toArray⟩) none (some (.int .i64 (i : Int))) none).run Try.prog W = .ok (.string ⟨(S.take i).toArray⟩) W := take_strB S i (by omega)
    have HIL := Lib.hid hil
    clear hok he D1 D2 D3 hS hi
    unfold encV
    go_wp2_with fail
    refine (C1.out _).mono ?_
    rintro e w4 h4
    obtain ⟨x, hx, rfl, ix, b4⟩ := h4.got
    have HX := Lib.hid hx
    have IX := Lib.hid ix
    have HB4 := Lib.hid (HB3.out.call b4)
    clear hx ix b4 h4 HB3
    go_wp2_with ((with_reducible refine at_store 7 32 ?_); refine tyBk.wpList_store rfl (.tmp 7) (.tmp 32) rfl rfl w4.heap.size x rfl rfl 28 _ (Blk.new w4 _ _) rfl ?_; intro w5 o b; have K5 := Lib.hid b; have T5 := Lib.hid (((Below.refl w4.heap.size w4).alloc (Nat.le_refl _) _).trans (o.below (by simp))); clear b o)
    refine (C2.out i HIL.out _).mono ?_
    rintro e w6 h6
    obtain ⟨y, hy, rfl, iy, b6⟩ := h6.got
    have T6 := Lib.hid b6
    clear hy iy b6 h6
    go_wp2_with ((with_reducible refine at_store 9 43 ?_); refine tyBk.wpList_store rfl (.tmp 9) (.tmp 43) rfl rfl w6.heap.size y rfl rfl 28 _ (Blk.new w6 _ _) rfl ?_; intro w7 o b; have T7 := Lib.hid (((Below.refl w6.heap.size w6).alloc (Nat.le_refl _) _).trans (o.below (by simp))); clear b o)
    refine (C3.out _).mono ?_
    rintro e w8 h8
    obtain ⟨z, hz, rfl, iz, b8⟩ := h8.got
    have T8 := Lib.hid b8
    clear hz iz b8 h8
    have SX := Lib.hid (show decide (x.B = a.B) = true from decide_eq_true HX.out)
    go_wp2_with (first
      | ((with_reducible refine at_store 11 49 ?_); refine tyBk.wpList_store rfl (.tmp 11) (.tmp 49) rfl rfl w8.heap.size z rfl rfl 28 _ (Blk.new w8 _ _) rfl ?_; intro w9 o b
         have T9 := Lib.hid (((Below.refl w8.heap.size w8).alloc (Nat.le_refl _) _).trans (o.below (by simp)))
         have T59 := Lib.hid (bstep T6.out (bstep T7.out (bstep T8.out T9.out)))
         have HB9 := Lib.hid (HB4.out.call (bstep T5.out T59.out))
         have QX := Lib.hid (below_blk T59.out K5.out K5.out.lt)
         have JX := Lib.hid (IX.out.on (bstep T5.out T59.out) (Nat.le_refl _))
         clear b o T5 T6 T7 T8 T9 T59 K5 HB4 IX)
      | ((with_reducible refine at_loadg 7 ?_); refine tyBk.wpList_load (by rfl) (.tmp 7) rfl w4.heap.size 0 rfl x (by simpa using RowC.of_blk QX.out) ?_)
      | ((with_reducible refine at_loadg 2 ?_); refine tyBk.wpList_load (by rfl) (.tmp 2) rfl w.heap.size 0 rfl a (by simpa using RowC.of_blk HB9.out.k) ?_))
    refine (refSameB_any x a _ JX.out HB9.out.inn).mono ?_
    rintro e w10 ⟨rfl, b10⟩
    rw [SX.out]
    have HBX := Lib.hid (HB9.out.call b10)
    clear b10 QX JX HB9
    go_wp2
    go_ret
    exact ⟨rfl, HBX.out.below⟩
  · rw [he]
    have hd : (er == 0) = false := beq_eq_false_iff_ne.mpr (by omega)
    clear he her
    unfold encV
    go_wp2
    go_ret
    exact ⟨rfl, HB3.out.below⟩
end Go.Proofs.Ythpnmmilioonhaa
