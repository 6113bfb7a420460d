/- take of a transaction; readTxs; its step. Written by genDc.py. -/
import Derived.Test.YthpnmmilioonhaaDoorBkC
namespace Go.Proofs.YthpnmmilioonhaaDoor
open Go.RowKit
set_option maxRecDepth 20000 in
theorem takeT_r (r : List UInt8) (hs : r.length ≤ 1000000) (gA g : Nat) (hne : gA ≠ g) (j : Nat) (L : List TxA) (hj : j < L.length) (w : World) (hA : Blk w gA 32 (cellsOf TxA.cells L).toArray) (hr : Sb w g r) :
    Calls Tryd.prog 75 #[.pointer (some ⟨gA, j * 38, none⟩), .pointer (some ⟨g, 0, none⟩), .func (.func 76) #[] #[]] w fun e w' => PastL [gA, g] w w' ∧ match txR r with
      | .ok (T, r') => e = .returned (.int .i64 0) ∧ Sb w' g r' ∧ ∃ a : TxA, a.T = T ∧ TO w' a ∧ Blk w' gA 32 (cellsOf TxA.cells (L.set j a)).toArray
      | .error er => e = .returned (.int .i64 er) := by
  have hc := read_r r hs w
  have cs := hr.cell 0
  have HN := Lib.hid hne
  have HJ := Lib.hid hj
  have HR := Lib.hid hr
  have HA := Lib.hid hA
  clear hr hA hne hj
  cases hq : txR r with
  | error er =>
    rw [show readTx r = (noTx, [], er) by unfold readTx; rw [hq]] at hc
    have HC := Lib.hid hc
    clear hc hq
    go_enter Tryd.func75, Tryd.ntmps75
    go_wp2_with fail
    refine HC.out.mono ?_
    rintro e w1 ⟨⟨a, ha, rfl, tl⟩, b1⟩
    have KS := Lib.hid (below_blk b1 HR.out HR.out.lt)
    have KB := Lib.hid (below_blk b1 HA.out HA.out.lt)
    have PP := Lib.hid (PastL.of_below (L := [gA, g]) b1)
    have HT := Lib.hid ha
    have TL1 := Lib.hid tl
    clear b1 HC cs HR HA ha tl
    go_wp2_with (first
      | ((with_reducible refine at_store 18 15 ?_); refine tyTxR.wpList_store rfl (.tmp 18) (.tmp 15) rfl rfl gA j a rfl rfl 32 _ KB.out HJ.out ?_; intro v1 ox bx
         have K1 := Lib.hid bx
         have S1 := Lib.hid (ox.blk KS.out (by simpa using fun e => HN.out e.symm))
         have P1 := Lib.hid (PP.out.only ox (.inl (by simp)))
         skip
         clear ox bx)
      | ((with_reducible refine at_store 19 16 ?_); refine wpList_store_blk rfl 9 (.tmp 19) (.tmp 16) rfl rfl g (.string ⟨([] : List UInt8).toArray⟩) rfl rfl rfl 9 _ S1.out (by kernel_rfl) ?_; intro v2 oy bY
         have S2 := Lib.hid bY
         have K2 := Lib.hid (oy.blk K1.out (by simpa using HN.out))
         have P2 := Lib.hid (P1.out.only oy (.inl (by simp)))
         skip
         clear oy bY))
    go_ret
    exact ⟨P2.out, rfl⟩
  | ok x =>
    obtain ⟨T, r'⟩ := x
    rw [show readTx r = (T, r', 0) by unfold readTx; rw [hq]] at hc
    have HOK := Lib.hid (ok_of good_tx hq)
    have HC := Lib.hid hc
    clear hc hq
    go_enter Tryd.func75, Tryd.ntmps75
    go_wp2_with fail
    refine HC.out.mono ?_
    rintro e w1 ⟨⟨a, ha, rfl, tl⟩, b1⟩
    have KS := Lib.hid (below_blk b1 HR.out HR.out.lt)
    have KB := Lib.hid (below_blk b1 HA.out HA.out.lt)
    have PP := Lib.hid (PastL.of_below (L := [gA, g]) b1)
    have HT := Lib.hid ha
    have TL1 := Lib.hid tl
    clear b1 HC cs HR HA ha tl
    go_wp2_with (first
      | ((with_reducible refine at_store 18 15 ?_); refine tyTxR.wpList_store rfl (.tmp 18) (.tmp 15) rfl rfl gA j a rfl rfl 32 _ KB.out HJ.out ?_; intro v1 ox bx
         have K1 := Lib.hid bx
         have S1 := Lib.hid (ox.blk KS.out (by simpa using fun e => HN.out e.symm))
         have P1 := Lib.hid (PP.out.only ox (.inl (by simp)))
         have T1 := Lib.hid ((TL1.out.to (HT.out ▸ HOK.out)).onlyX ox KB.out (by decide) (by decide) (by decide))
         clear ox bx)
      | ((with_reducible refine at_store 19 16 ?_); refine wpList_store_blk rfl 9 (.tmp 19) (.tmp 16) rfl rfl g (.string ⟨r'.toArray⟩) rfl rfl rfl 9 _ S1.out (by kernel_rfl) ?_; intro v2 oy bY
         have S2 := Lib.hid bY
         have K2 := Lib.hid (oy.blk K1.out (by simpa using HN.out))
         have P2 := Lib.hid (P1.out.only oy (.inl (by simp)))
         have T2 := Lib.hid (T1.out.onlyX oy S1.out (by decide) (by decide) (by decide))
         clear oy bY))
    go_ret
    exact ⟨P2.out, rfl, S2.out, a, HT.out, T2.out, K2.out⟩
theorem bb_len {w : World} {gb : Nat} {bk : BkA} {l m : List TxA} {A : Option Addr} {c : Nat} (h : Bb w gb ({ bk with txs := l, A := A, c := c } : BkA)) (e : l.length = m.length) : Bb w gb ({ bk with txs := m, A := A, c := c } : BkA) := by
  have : ({ bk with txs := l, A := A, c := c } : BkA).cells = ({ bk with txs := m, A := A, c := c } : BkA).cells := by
    unfold BkA.cells
    simp only [e]
  unfold Bb at h ⊢
  rwa [← this]
theorem blk_own {α : Type} {enc : α → List Value} {k : Nat} {e : TypeId} {w : World} {g : Nat} {l : List α} (hk : ∀ x, (enc x).length = k) (h : Blk w g e (cellsOf enc l).toArray) (hm : l.length ≤ maxLen) : w.ownsRow 0 e k (.slice (some ⟨g, 0, none⟩) l.length l.length) l.length (cellsOf enc l) := by
  refine ⟨by rw [cellsOf_len hk], .inr ⟨g, _, _, rfl, Nat.zero_le _, h, Nat.le_refl _, hm, by rw [List.size_toArray, cellsOf_len hk], ?_⟩⟩
  rw [List.take_of_length_le (by rw [cellsOf_len hk]; exact Nat.le_refl _)]
/-- a call that turned a block which is newer than w, and g -/
theorem PastL.row {g gb : Nat} {w w1 w2 : World} (h : PastL [g, gb] w w1) (k : PastL [w.heap.size, g] w1 w2) : PastL [g, gb] w w2 :=
  ⟨k.os.trans h.os, k.tape.trans h.tape, k.output.trans h.output, Nat.le_trans h.size k.size, fun i hi hg => (k.block i (Nat.lt_of_lt_of_le hi h.size) (by
    intro q
    rcases List.mem_cons.1 q with q | q
    · omega
    · obtain rfl : i = g := by simpa using q
      exact hg (by simp))).trans (h.block i hi hg)⟩
/-- how readTxs ends -/
def EndR6 (bk : BkA) (g gb : Nat) (w : World) (x : Except Int (List TxV × List UInt8)) (e : Ending) (w' : World) : Prop :=
  PastL [g, gb] w w' ∧ match x with
  | .error er => e = .returned (.int .i64 er)
  | .ok (l, r) => e = .returned (.int .i64 0) ∧ Sb w' g r ∧ ∃ b' : BkA, b'.B = ⟨bk.prev, bk.root, bk.nonce, l⟩ ∧ Bb w' gb b' ∧ BO w' b'
set_option maxRecDepth 20000 in
set_option maxHeartbeats 4000000 in
theorem readTxs_r (n : Nat) (hn : n ≤ 30) (r0 : List UInt8) (hs : r0.length ≤ 1000000) (bk : BkA) (g gb : Nat) (hne : g ≠ gb) (w : World) (hr : Sb w g r0) (hb : Bb w gb bk) :
    Calls Tryd.prog 50 #[.pointer (some ⟨gb, 0, none⟩), .pointer (some ⟨g, 0, none⟩), .int .i64 n] w (EndR6 bk g gb w (listR txR n r0)) := by
  obtain ⟨z, hz⟩ : ∃ z : TxA, z = ⟨txZero, none, 0, none, 0, none, 0, none, 0⟩ := ⟨_, rfl⟩
  have hmk : ∀ W, (Instr.makeSlice 25 (.int .i64 (n : Int)) (.int .i64 (n : Int))).run Tryd.prog W = .ok (.slice (some ⟨W.heap.size, 0, none⟩) n n) (W.alloc (.cells (cellsOf TxA.cells (List.replicate n z)).toArray 32)) := fun W =>
    tyTxR.made W z (.agg z.cells.toArray) 144 (by subst hz; kernel_rfl) rfl (by omega) .i64 .i64 n (by omega)
  clear hz
  obtain ⟨X, hX⟩ : ∃ X, listR txR n r0 = X := ⟨_, rfl⟩
  rw [hX]
  have HX := Lib.hid hX
  have HN := Lib.hid hne
  have LG := Lib.hid hr.lt
  have LB' := Lib.hid hb.lt
  have S0 := Lib.hid (hr.alloc (.cells (cellsOf TxA.cells (List.replicate n z)).toArray 32))
  have B0 := Lib.hid (show Blk _ _ _ _ from Blk.alloc hb (.cells (cellsOf TxA.cells (List.replicate n z)).toArray 32))
  have A0 := Lib.hid (Blk.new w 32 (cellsOf TxA.cells (List.replicate n z)).toArray)
  clear hX hr hb hne
  go_enter Tryd.func50, Tryd.ntmps50
  go_wp2_with (first
    | ((with_reducible refine at_store 13 11 ?_); refine wpList_store_cell rfl 25 (.tmp 13) (.tmp 11) rfl rfl gb 65 (.slice (some ⟨w.heap.size, 0, none⟩) (List.replicate n z).length n) rfl (by rw [List.length_replicate]; rfl) rfl 27 _ B0.out (by rw [tyBk.arr]; omega) (by kernel_rfl) ?_; intro w5 ox bx; rw [BkA.set_txs] at bx
       have KB := Lib.hid bx
       have KS := Lib.hid (ox.blk S0.out (by simpa using HN.out))
       have KA := Lib.hid (ox.blk A0.out (by have := LB'.out; simp; omega))
       have PP := Lib.hid ((PastL.of_below (L := [g, gb]) ((Below.refl _ w).alloc (Nat.le_refl _) (.cells (cellsOf TxA.cells (List.replicate n z)).toArray 32))).only ox (.inl (by simp)))
       have cell : w5.cell? ⟨gb, 65, none⟩ = some (.slice (some ⟨w.heap.size, 0, none⟩) (List.replicate n z).length n) := BkA.c3 (RowC.of_blk bx)
       rw [List.length_replicate] at cell
       clear ox bx S0 B0 A0))
  clear hmk cell
  go_loopw [19] (fun i wr => ∃ (lst : List TxA) (r : List UInt8) (m : Nat), lst.length + m = n ∧ i = .int .i64 (lst.length : Nat) ∧ Hid (X = contL (lst.map TxA.T) (listR txR m r) ∧ r.length ≤ 1000000) ∧ Hid (Blk wr w.heap.size 32 (cellsOf TxA.cells (lst ++ List.replicate m z)).toArray) ∧ Hid (∀ t ∈ lst, TO wr t) ∧ Hid (Bb wr gb ({ bk with txs := List.replicate n z, A := some ⟨w.heap.size, 0, none⟩, c := n } : BkA)) ∧ Hid (Sb wr g r) ∧ Hid (PastL [g, gb] w wr)) (fun i _ => n - (intOf i).toNat)
  case atStart =>
    refine ⟨[], r0, n, by simp, rfl, Lib.hid ⟨?_, hs⟩, Lib.hid KA.out, Lib.hid (fun _ h => by cases h), KB, KS, PP⟩
    rw [HX.out]
    cases X <;> rfl
  case round =>
    clear KB KS KA PP HX hs
    obtain ⟨lst, r, m, hlm, rfl, hx, OV, TOS, KB, KS, PP⟩ := hrel
    obtain ⟨j, hj⟩ : ∃ j, lst.length = j := ⟨_, rfl⟩
    have HJ := Lib.hid hj
    have cell : wr.cell? ⟨gb, 65, none⟩ = some (.slice (some ⟨w.heap.size, 0, none⟩) (List.replicate n z).length n) := BkA.c3 (RowC.of_blk KB.out)
    rw [List.length_replicate] at cell
    cases m with
    | zero =>
      have hjn : j = n := by omega
      rw [hj]
      clear hlm hj
      have HXL := Lib.hid (show X = .ok (lst.map TxA.T, r) by rw [hx.out.1]; simp [contL, listR])
      clear hx
      subst hjn
      go_wp2
      go_ret
      rw [HXL.out]
      have hov := OV.out
      rw [List.replicate_zero, List.append_nil] at hov
      have hbb := bb_len KB.out (m := lst) (by rw [List.length_replicate, HJ.out])
      refine ⟨PP.out, rfl, KS.out, _, ?_, hbb, ?_, TOS.out⟩
      · rfl
      · have := blk_own TxA.len hov (by rw [HJ.out]; unfold maxLen; omega)
        rw [HJ.out] at this
        simpa only [HJ.out] using this
    | succ m =>
      have hlt : j < n := by omega
      rw [hj]
      clear hj
      have hc := takeT_r r hx.out.2 w.heap.size g (by have := LG.out; omega) j (lst ++ List.replicate (m + 1) z) (by rw [List.length_append, HJ.out, List.length_replicate]; omega) wr OV.out KS.out
      cases hq : txR r with
      | error er =>
        have he0 : er ≠ 0 := by rcases errs_tx r er hq with h | h | h <;> omega
        have hd : (er == 0) = false := beq_eq_false_iff_ne.mpr he0
        rw [hq] at hc
        have HE := Lib.hid (show X = .error er by rw [hx.out.1, listR_err hq]; rfl)
        have HC := Lib.hid hc
        clear hc hq he0 hlm hx OV TOS KB
        go_wp2_with fail
        refine HC.out.mono ?_
        rintro e w1 ⟨p1, h1⟩
        obtain rfl : e = .returned (.int .i64 er) := h1
        have P1 := Lib.hid (PP.out.row p1)
        clear p1 HC cell PP
        go_wp2_with fail
        go_ret
        rw [HE.out]
        exact ⟨P1.out, rfl⟩
      | ok x =>
        obtain ⟨T, r2⟩ := x
        rw [hq] at hc
        have HS := Lib.hid (rest_len good_tx hq hx.out.2)
        have HXN := Lib.hid (show X = contL (lst.map TxA.T ++ [T]) (listR txR m r2) by rw [hx.out.1, listR_ok hq])
        have HLM := Lib.hid hlm
        have HC := Lib.hid hc
        clear hc hq hlm hx
        go_wp2_with fail
        refine HC.out.mono ?_
        rintro e w1 ⟨p1, h1⟩
        obtain ⟨rfl, s1, a, ha, ta, k1⟩ := (h1 : _ ∧ _ ∧ _)
        have S1 := Lib.hid s1
        have TOS1 := Lib.hid (show ∀ t ∈ lst ++ [a], TO w1 t by
          intro t ht
          rcases List.mem_append.1 ht with h | h
          · refine (TOS.out t h).past p1 (fun i hi => ?_)
            rcases List.mem_cons.1 hi with rfl | hi
            · exact ⟨_, _, OV.out, by decide, by decide, by decide⟩
            · obtain rfl : i = g := by simpa using hi
              exact ⟨_, _, KS.out, by decide, by decide, by decide⟩
          · obtain rfl : t = a := by simpa using h
            exact ta)
        have K1 := Lib.hid (show Blk w1 w.heap.size 32 (cellsOf TxA.cells ((lst ++ [a]) ++ List.replicate m z)).toArray by rw [← set_fill, HJ.out]; exact k1)
        have KB1 := Lib.hid (p1.blk KB.out (by have h1 := LB'.out; have h2 := HN.out; simp; omega))
        have P1 := Lib.hid (PP.out.row p1)
        have HXM := Lib.hid (show X = contL ((lst ++ [a]).map TxA.T) (listR txR m r2) by rw [HXN.out, List.map_append, ← ha]; rfl)
        have e1 : (lst ++ [a]).length = j + 1 := by rw [List.length_append, HJ.out]; rfl
        clear s1 ta k1 p1 HC OV TOS KB KS PP ha cell
        go_wp2_with fail
        go_roundw
        case rel => exact ⟨lst ++ [a], r2, m, by rw [e1]; have h1 := HLM.out; have h2 := HJ.out; omega, by rw [e1]; go_num, Lib.hid ⟨HXM.out, HS.out⟩, K1, TOS1, KB1, S1, P1⟩
        case measure => simp [intOf]; omega
set_option maxRecDepth 20000 in
theorem step6_r (n : Nat) (hn : n ≤ 30) (r0 : List UInt8) (hs : r0.length ≤ 1000000) (bk : BkA) (g gb gn : Nat) (hne : g ≠ gb) (w : World) (hr : Sb w g r0) (hb : Bb w gb bk) (hnb : Nb w gn n) :
    Calls Tryd.prog 49 #[.pointer (some ⟨gb, 0, none⟩), .pointer (some ⟨g, 0, none⟩), .pointer (some ⟨gn, 0, none⟩)] w (EndR6 bk g gb w (listR txR n r0)) := by
  have hc := readTxs_r n hn r0 hs bk g gb hne w hr hb
  have c := hnb.cell 0
  have hw64 : wrap64 (n : Int) = n := by unfold wrap64; omega
  obtain ⟨X, hX⟩ : ∃ X, listR txR n r0 = X := ⟨_, rfl⟩
  rw [hX] at hc ⊢
  have HC := Lib.hid hc
  clear hc hX hr hb hnb
  cases X with
  | error er =>
    go_enter Tryd.func49, Tryd.ntmps49
    go_wp2_with fail
    refine HC.out.mono ?_
    rintro e w1 ⟨p1, h1⟩
    obtain rfl : e = .returned (.int .i64 er) := h1
    go_wp2_with fail
    go_ret
    exact ⟨p1, rfl⟩
  | ok x =>
    obtain ⟨L, r⟩ := x
    go_enter Tryd.func49, Tryd.ntmps49
    go_wp2_with fail
    refine HC.out.mono ?_
    rintro e w1 ⟨p1, h1⟩
    obtain ⟨rfl, h2⟩ := (h1 : _ ∧ _)
    have H2 := Lib.hid h2
    clear h2
    go_wp2_with fail
    go_ret
    exact ⟨p1, rfl, H2.out⟩
end Go.Proofs.YthpnmmilioonhaaDoor
