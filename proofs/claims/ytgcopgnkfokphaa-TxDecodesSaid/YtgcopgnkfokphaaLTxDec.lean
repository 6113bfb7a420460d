/- TxDecodes: which transaction any bytes are, or begin by, is the document's, or its error: the statement's walk. -/
import Derived.Test.YtgcopgnkfokphaaTxPc
import Derived.Test.YtgcopgnkfokphaaTxY
namespace Go.Proofs.Ytgcopgnkfokphaa
open Go.RowKit
theorem dstep {a b c : World} (h : Below a.heap.size a b) (k : Below b.heap.size b c) : Below a.heap.size a c := h.trans (k.mono h.size)
theorem dstr_list (s : ByteArray) : ∃ l : List UInt8, s = ⟨l.toArray⟩ ∧ l.length = s.size := ⟨s.data.toList, by cases s; simp only [Array.toArray_toList], ba_len s⟩
set_option maxRecDepth 20000 in
set_option maxHeartbeats 1000000 in
theorem txdec_walk (s : ByteArray) (w : World) (_hs : s.size ≤ maxLen) :
    Calls Try.prog 3 #[.string s] w fun e w' => e = .returned (.bool true) ∧ Below w.heap.size w w' := by
  clear _hs
  obtain ⟨l, rfl, hl⟩ := dstr_list s
  clear hl
  by_cases h1 : 8192 < l.length
  · have hd : decide ((8192 : Int) < l.length) = true := by simp; omega
    go_enter Try.func3, Try.ntmps3
    go_wp2_with fail
    refine (xshown_any _).mono ?_
    rintro e w1 ⟨rfl, b1⟩
    go_wp2
    go_ret
    exact ⟨rfl, b1⟩
  have hd : decide ((8192 : Int) < l.length) = false := by simp; omega
  have C1 := Lib.hid (dec_r l (by omega))
  have C2 := Lib.hid (rDec_r l (by omega))
  have C3 := Lib.hid (read_r l (by omega))
  have C4 := Lib.hid (rRead_r l (by omega))
  have OD := Lib.hid (decTx_okk l)
  have OR := Lib.hid (readTx_ok l)
  clear h1
  obtain ⟨⟨D, er⟩, hD⟩ : ∃ D, decTx l = D := ⟨_, rfl⟩
  obtain ⟨⟨R, r, fr⟩, hR⟩ : ∃ R, readTx l = R := ⟨_, rfl⟩
  rw [hD] at C1 C2 OD
  rw [hR] at C3 C4 OR
  clear hD hR
  go_enter Try.func3, Try.ntmps3
  go_wp2_with fail
  refine (xshown_any _).mono ?_
  rintro e w1 ⟨rfl, b1⟩
  have B1 := Lib.hid b1
  clear b1
  go_wp2_with fail
  refine (C1.out _).mono ?_
  rintro e w2 ⟨⟨a, ha, rfl, tl⟩, b2⟩
  have HA := Lib.hid ha
  have B2 := Lib.hid (dstep B1.out b2)
  have IA := Lib.hid (tl.inn (ha ▸ OD.out))
  clear ha b2 tl B1
  go_wp2_with ((with_reducible refine at_store 3 24 ?_); refine tyTx.wpList_store rfl (.tmp 3) (.tmp 24) rfl rfl w2.heap.size a rfl rfl 30 _ (Blk.new w2 _ _) rfl ?_; intro w3 o b; have K3 := Lib.hid b; have T3 := Lib.hid (((Below.refl w2.heap.size w2).alloc (Nat.le_refl _) _).trans (o.below (by simp))); clear b o)
  refine (C2.out _).mono ?_
  rintro e w4 ⟨⟨b, hb, rfl, tl⟩, b4⟩
  have HB := Lib.hid hb
  have T4 := Lib.hid b4
  have IB := Lib.hid tl.inn
  clear hb b4 tl
  go_wp2_with ((with_reducible refine at_store 5 29 ?_); refine tyTx.wpList_store rfl (.tmp 5) (.tmp 29) rfl rfl w4.heap.size b rfl rfl 30 _ (Blk.new w4 _ _) rfl ?_; intro w5 o b; have K5 := Lib.hid b; have T5 := Lib.hid (((Below.refl w4.heap.size w4).alloc (Nat.le_refl _) _).trans (o.below (by simp))); clear b o)
  refine (C3.out _).mono ?_
  rintro e w6 ⟨⟨x, hx, rfl, tl⟩, b6⟩
  have HX := Lib.hid hx
  have T6 := Lib.hid b6
  have IX := Lib.hid (tl.inn (hx ▸ OR.out))
  clear hx b6 tl
  go_wp2_with ((with_reducible refine at_store 7 34 ?_); refine tyTx.wpList_store rfl (.tmp 7) (.tmp 34) rfl rfl w6.heap.size x rfl rfl 30 _ (Blk.new w6 _ _) rfl ?_; intro w7 o b; have K7 := Lib.hid b; have T7 := Lib.hid (((Below.refl w6.heap.size w6).alloc (Nat.le_refl _) _).trans (o.below (by simp))); clear b o)
  refine (C4.out _).mono ?_
  rintro e w8 ⟨⟨y, hy, rfl, tl⟩, b8⟩
  have HY := Lib.hid hy
  have T8 := Lib.hid b8
  have IY := Lib.hid tl.inn
  clear hy b8 tl
  have SAB := Lib.hid (show sameF a.T b.T = true from (sameF_iff _ _).2 (HA.out.trans HB.out.symm))
  have SXY := Lib.hid (show sameF x.T y.T = true from (sameF_iff _ _).2 (HX.out.trans HY.out.symm))
  go_wp2_with (first
    | ((with_reducible refine at_store 10 40 ?_); refine tyTx.wpList_store rfl (.tmp 10) (.tmp 40) rfl rfl w8.heap.size y rfl rfl 30 _ (Blk.new w8 _ _) rfl ?_; intro w9 o b
       have T9 := Lib.hid (((Below.refl w8.heap.size w8).alloc (Nat.le_refl _) _).trans (o.below (by simp)))
       have S89 := Lib.hid (dstep T8.out T9.out)
       have S79 := Lib.hid (dstep T7.out S89.out)
       have S69 := Lib.hid (dstep T6.out S79.out)
       have S59 := Lib.hid (dstep T5.out S69.out)
       have S49 := Lib.hid (dstep T4.out S59.out)
       have QA := Lib.hid (below_blk S49.out K3.out K3.out.lt)
       have QB := Lib.hid (below_blk S69.out K5.out K5.out.lt)
       have QX := Lib.hid (below_blk S89.out K7.out K7.out.lt)
       have QY := Lib.hid b
       have JA := Lib.hid (IA.out.on (dstep T3.out S49.out) (Nat.le_refl _))
       have JB := Lib.hid (IB.out.on S59.out (Nat.le_refl _))
       have JX := Lib.hid (IX.out.on S79.out (Nat.le_refl _))
       have JY := Lib.hid (IY.out.on T9.out (Nat.le_refl _))
       have BB := Lib.hid (dstep B2.out (dstep T3.out S49.out))
       clear b o T3 T4 T5 T6 T7 T8 T9 S89 S79 S69 S59 S49 K3 K5 K7 IA IB IX IY B2)
    | ((with_reducible refine at_loadg 3 ?_); refine tyTx.wpList_load (by rfl) (.tmp 3) rfl w2.heap.size 0 rfl a (by simpa using RowC.of_blk QA.out) ?_)
    | ((with_reducible refine at_loadg 5 ?_); refine tyTx.wpList_load (by rfl) (.tmp 5) rfl w4.heap.size 0 rfl b (by simpa using RowC.of_blk QB.out) ?_))
  refine (refSame_any a b _ JA.out JB.out).mono ?_
  rintro e w10 ⟨rfl, b10⟩
  rw [SAB.out]
  have PX := Lib.hid (below_blk b10 QX.out QX.out.lt)
  have PY := Lib.hid (below_blk b10 QY.out QY.out.lt)
  have LX := Lib.hid (JX.out.on b10 (Nat.le_refl _))
  have LY := Lib.hid (JY.out.on b10 (Nat.le_refl _))
  have BB2 := Lib.hid (dstep BB.out b10)
  clear b10 QA QB QX QY JA JB JX JY BB
  go_wp2_with (first
    | ((with_reducible refine at_loadg 7 ?_); refine tyTx.wpList_load (by rfl) (.tmp 7) rfl w6.heap.size 0 rfl x (by simpa using RowC.of_blk PX.out) ?_)
    | ((with_reducible refine at_loadg 10 ?_); refine tyTx.wpList_load (by rfl) (.tmp 10) rfl w8.heap.size 0 rfl y (by simpa using RowC.of_blk PY.out) ?_))
  refine (refSame_any x y _ LX.out LY.out).mono ?_
  rintro e w11 ⟨rfl, b11⟩
  rw [SXY.out]
  have BB3 := Lib.hid (dstep BB2.out b11)
  clear b11
  go_wp2
  go_ret
  exact ⟨rfl, BB3.out⟩
end Go.Proofs.Ytgcopgnkfokphaa
