/- The document's part of a transaction, place by place. Written by genPart.py. -/
import Derived.Test.YthpnmmilioonhaaTxO
import Derived.Test.YthpnmmilioonhaaTxZ
namespace Go.Proofs.Ythpnmmilioonhaa
open Go.RowKit
/-- the lists of a transaction lie in blocks of their types -/
structure TO (w : World) (a : TxA) : Prop where
  ins : w.ownsRow 0 49 33 (.slice a.Ai a.T.ins.length a.ci) a.T.ins.length (cellsOf (encKI .u32) a.T.ins)
  outs : w.ownsRow 0 92 33 (.slice a.Ao a.T.outs.length a.co) a.T.outs.length (cellsOf (encIK .i64) a.T.outs)
  nulls : w.ownsRow 0 24 32 (.slice a.An a.T.nulls.length a.cn) a.T.nulls.length (cellsOf encK a.T.nulls)
  notes : w.ownsRow 0 24 32 (.slice a.At a.T.notes.length a.ct) a.T.notes.length (cellsOf encK a.T.notes)
section
variable {w w' : World} {a : TxA}
theorem TO.inn (h : TO w a) : a.In w w.heap.size := ⟨row_own (encKI_len _) h.ins, row_own (encIK_len _) h.outs, row_own encK_len h.nulls, row_own encK_len h.notes⟩
theorem TO.from (h : TO w a) (b : Below w.heap.size w w') : TO w' a := ⟨xown_from h.ins b, xown_from h.outs b, xown_from h.nulls b, xown_from h.notes b⟩
theorem TO.only {g : Nat} {cs : Array Value} (h : TO w a) (o : Only [g] w w') (hg : Blk w g 44 cs) : TO w' a := ⟨xown_only h.ins o hg (by decide), xown_only h.outs o hg (by decide), xown_only h.nulls o hg (by decide), xown_only h.notes o hg (by decide)⟩
theorem TO.exp (h : TO w a) (z : IntV .u32) : TO w { a with T := { a.T with exp := z } } := ⟨h.ins, h.outs, h.nulls, h.notes⟩
theorem TO.bal (h : TO w a) (z : IntV .i64) : TO w { a with T := { a.T with bal := z } } := ⟨h.ins, h.outs, h.nulls, h.notes⟩
theorem TO.anchor (h : TO w a) (k : K32) : TO w { a with T := { a.T with anchor := k } } := ⟨h.ins, h.outs, h.nulls, h.notes⟩
theorem TO.setIns (h : TO w a) (l : List (K32 × IntV .u32)) (A : Option Addr) (c : Nat) {b : Nat} (ho : w.ownsRow b 49 33 (.slice A l.length c) l.length (cellsOf (encKI .u32) l)) : TO w { a with T := { a.T with ins := l }, Ai := A, ci := c } := ⟨xown_base ho (Nat.zero_le _), h.outs, h.nulls, h.notes⟩
theorem TO.setOuts (h : TO w a) (l : List (IntV .i64 × K32)) (A : Option Addr) (c : Nat) {b : Nat} (ho : w.ownsRow b 92 33 (.slice A l.length c) l.length (cellsOf (encIK .i64) l)) : TO w { a with T := { a.T with outs := l }, Ao := A, co := c } := ⟨h.ins, xown_base ho (Nat.zero_le _), h.nulls, h.notes⟩
theorem TO.setNulls (h : TO w a) (l : List K32) (A : Option Addr) (c : Nat) {b : Nat} (ho : w.ownsRow b 24 32 (.slice A l.length c) l.length (cellsOf encK l)) : TO w { a with T := { a.T with nulls := l }, An := A, cn := c } := ⟨h.ins, h.outs, xown_base ho (Nat.zero_le _), h.notes⟩
theorem TO.setNotes (h : TO w a) (l : List K32) (A : Option Addr) (c : Nat) {b : Nat} (ho : w.ownsRow b 24 32 (.slice A l.length c) l.length (cellsOf encK l)) : TO w { a with T := { a.T with notes := l }, At := A, ct := c } := ⟨h.ins, h.outs, h.nulls, xown_base ho (Nat.zero_le _)⟩
theorem TO.zero (w : World) : TO w aZ := ⟨World.ownsRow_nil _ _ _ _, World.ownsRow_nil _ _ _ _, World.ownsRow_nil _ _ _ _, World.ownsRow_nil _ _ _ _⟩
end
/-- what part wants of a transaction -/
structure PtI (p : Nat) (w : World) (a : TxA) : Prop where
  to : TO w a
  ins : p ≤ 1 → a.Ai = none ∧ a.ci = 0 ∧ a.T.ins = []
  outs : p ≤ 2 → a.Ao = none ∧ a.co = 0 ∧ a.T.outs = []
  anc : p ≤ 3 → a.T.anchor = zeroKey
/-- how part ends -/
def EndP (p : Nat) (w : World) (x : Except Int (TxV × List UInt8)) (e : Ending) (w' : World) : Prop :=
  Below w.heap.size w w' ∧ match x with
  | .ok (T, r) => ∃ b : TxA, b.T = T ∧ e = .returned (.tuple #[.agg b.cells.toArray, .string ⟨r.toArray⟩, .int .i64 0]) ∧ PtI (p + 1) w' b
  | .error er => ∃ (b : TxA) (r : List UInt8), e = .returned (.tuple #[.agg b.cells.toArray, .string ⟨r.toArray⟩, .int .i64 er])
/-- what lies there while part is at work: the transaction, then the answer's place -/
structure PtS (w0 : World) (a : TxA) (w : World) : Prop where
  below : Below w0.heap.size w0 w
  size : w0.heap.size + 2 ≤ w.heap.size
  k2 : ∃ cs : Array Value, cs.size = 38 ∧ Blk w (w0.heap.size + 1) 44 cs
  k3 : Blk w w0.heap.size 44 a.cells.toArray
section
variable {w0 w w' : World} {a a' : TxA}
theorem PtS.step (h : PtS w0 a w) (b : Below (w0.heap.size + 2) w w') : PtS w0 a w' where
  below := h.below.trans (b.mono (by omega))
  size := Nat.le_trans h.size b.size
  k2 := by obtain ⟨cs, h1, h2⟩ := h.k2; exact ⟨cs, h1, below_blk b h2 (by omega)⟩
  k3 := below_blk b h.k3 (by omega)
theorem PtS.call (h : PtS w0 a w) (b : Below w.heap.size w w') : PtS w0 a w' := h.step (b.mono h.size)
theorem PtS.set (h : PtS w0 a w) (o : Only [w0.heap.size] w w') (b : Blk w' w0.heap.size 44 a'.cells.toArray) : PtS w0 a' w' where
  below := h.below.trans (o.below (by simp))
  size := by rw [o.size]; exact h.size
  k2 := by obtain ⟨cs, h1, h2⟩ := h.k2; exact ⟨cs, h1, o.blk h2 (by simp)⟩
  k3 := b
theorem PtS.two (cs cs' : Array Value) (hc : cs.size = 38) (hc' : cs' = a.cells.toArray) : PtS w0 a ((w0.alloc (.cells cs' 44)).alloc (.cells cs 44)) where
  below := ((Below.refl _ _).alloc (Nat.le_refl _) _).alloc (by simp) _
  size := by simp
  k2 := ⟨cs, hc, blk_new _ _ (by simp)⟩
  k3 := hc' ▸ (Blk.new _ _ _).alloc _
end
def ontoL {α : Type} (f : α → TxV) (x : Except Int (α × List UInt8)) : Except Int (TxV × List UInt8) := match x with
  | .error e => .error e
  | .ok (l, r) => .ok (f l, r)
theorem ok_of {α : Type} {W : α → List UInt8} {R : Rd α} {V : α → Prop} (h : Good W R V) {l r : List UInt8} {x : α} (e : R l = .ok (x, r)) : V x := (h.bwd _ _ _ e).1
set_option maxRecDepth 20000 in
set_option maxHeartbeats 4000000 in
theorem part0_r (a : TxA) (l : List UInt8) (hs : l.length ≤ 1000000) (w : World) (h : PtI 0 w a) :
    Calls Try.prog 56 #[.agg a.cells.toArray, .int .i64 0, .string ⟨l.toArray⟩] w (EndP 0 w (partR 0 a.T l)) := by
  have hC := rGet_r l hs 4 (by omega) (by omega)
  have ST := Lib.hid (PtS.two (w0 := w) (a := a))
  have HI := Lib.hid h
  clear h
  cases hq : getR 4 l with
  | error er =>
    rw [show partR 0 a.T l = .error er by simp only [partR, u32R, mapR, hq]]
    have HC := Lib.hid (fun W => hq ▸ hC W)
    clear hq hC
    go_enter Try.func56, Try.ntmps56
    go_wp2_with fail
    refine (HC.out _).mono ?_
    rintro e w1 ⟨b1, rfl⟩
    have ST' := Lib.hid ((ST.out _ _ (by kernel_rfl) rfl).call b1)
    clear b1 HC
    clear ST; have ST := ST'; clear ST'
    go_wp2_with (first
      | ((with_reducible refine at_store 58 57 ?_); refine wpList_store_cell rfl 25 (.tmp 58) (.tmp 57) rfl rfl w.heap.size 0 (.int .u32 (toU32 0).1) rfl (by kernel_rfl) rfl 44 _ ST.out.k3 (by rw [tyTx.arr]; omega) (by kernel_rfl) ?_; intro v1 ox bx; rw [TxA.set_exp] at bx; have ST' := Lib.hid (ST.out.set (a' := ({ a with T := { a.T with exp := toU32 0 } } : TxA)) ox bx); clear ox bx; clear ST; have ST := ST'; clear ST'; obtain ⟨cz, hz, kz⟩ := ST.out.k2; have KZ := Lib.hid kz; have HZ := Lib.hid hz; have KA := Lib.hid ST.out.k3; clear kz hz)
      | ((with_reducible refine at_load 3 ?_); refine tyTx.wpList_load rfl (.tmp 3) rfl w.heap.size 0 rfl ({ a with T := { a.T with exp := toU32 0 } } : TxA) (by simpa using RowC.of_blk KA.out) ?_)
      | ((with_reducible refine at_store 6 62 ?_); refine tyTx.wpList_store rfl (.tmp 6) (.tmp 62) rfl rfl (w.heap.size + 1) ({ a with T := { a.T with exp := toU32 0 } } : TxA) rfl rfl 44 cz KZ.out HZ.out ?_; intro wz oz bz))
    exact bodyPost_ret (results_cell_tmp2 rfl _ _ (w.heap.size + 1) 44 _ (0, 0) _ rfl bz Try.underlying44 rfl (by rw [tyTx.arr]; kernel_rfl)) rfl ⟨ST.out.below.trans (oz.below (by simp)), _, [], rfl⟩
  | ok x =>
    obtain ⟨n, r⟩ := x
    have hn : n < 4294967296 := ok_of (good_get 4) hq
    rw [show partR 0 a.T l = .ok ({ a.T with exp := toU32 n }, r) by simp only [partR, u32R, mapR, hq]]
    have HV := Lib.hid (show Value.int .u32 ((n : Int) % 4294967296) = .int .u32 (toU32 n).1 from congrArg _ (by show (n : Int) % 4294967296 = ((n % 4294967296 : Nat) : Int); omega))
    have HC := Lib.hid (fun W => hq ▸ hC W)
    clear hq hC hn
    go_enter Try.func56, Try.ntmps56
    go_wp2_with fail
    refine (HC.out _).mono ?_
    rintro e w1 ⟨b1, rfl⟩
    have ST' := Lib.hid ((ST.out _ _ (by kernel_rfl) rfl).call b1)
    clear b1 HC
    clear ST; have ST := ST'; clear ST'
    go_wp2_with (first
      | ((with_reducible refine at_store 58 57 ?_); refine wpList_store_cell rfl 25 (.tmp 58) (.tmp 57) rfl rfl w.heap.size 0 (.int .u32 (toU32 n).1) rfl HV.out rfl 44 _ ST.out.k3 (by rw [tyTx.arr]; omega) (by kernel_rfl) ?_; intro v1 ox bx; rw [TxA.set_exp] at bx; have ST' := Lib.hid (ST.out.set (a' := ({ a with T := { a.T with exp := toU32 n } } : TxA)) ox bx); clear ox bx; clear ST; have ST := ST'; clear ST'; obtain ⟨cz, hz, kz⟩ := ST.out.k2; have KZ := Lib.hid kz; have HZ := Lib.hid hz; have KA := Lib.hid ST.out.k3; clear kz hz)
      | ((with_reducible refine at_load 3 ?_); refine tyTx.wpList_load rfl (.tmp 3) rfl w.heap.size 0 rfl ({ a with T := { a.T with exp := toU32 n } } : TxA) (by simpa using RowC.of_blk KA.out) ?_)
      | ((with_reducible refine at_store 6 62 ?_); refine tyTx.wpList_store rfl (.tmp 6) (.tmp 62) rfl rfl (w.heap.size + 1) ({ a with T := { a.T with exp := toU32 n } } : TxA) rfl rfl 44 cz KZ.out HZ.out ?_; intro wz oz bz))
    exact bodyPost_ret (results_cell_tmp2 rfl _ _ (w.heap.size + 1) 44 _ (0, 0) _ rfl bz Try.underlying44 rfl (by rw [tyTx.arr]; kernel_rfl)) rfl ⟨ST.out.below.trans (oz.below (by simp)), ({ a with T := { a.T with exp := toU32 n } } : TxA), rfl, rfl, (HI.out.to.from (ST.out.below.trans (oz.below (by simp)))).exp _, fun _ => HI.out.ins (by omega), fun _ => HI.out.outs (by omega), fun _ => HI.out.anc (by omega)⟩
set_option maxRecDepth 20000 in
set_option maxHeartbeats 4000000 in
theorem part5_r (a : TxA) (l : List UInt8) (hs : l.length ≤ 1000000) (w : World) (h : PtI 5 w a) :
    Calls Try.prog 56 #[.agg a.cells.toArray, .int .i64 5, .string ⟨l.toArray⟩] w (EndP 5 w (partR 5 a.T l)) := by
  have hC := rGet_r l hs 8 (by omega) (by omega)
  have ST := Lib.hid (PtS.two (w0 := w) (a := a))
  have HI := Lib.hid h
  clear h
  cases hq : getR 8 l with
  | error er =>
    rw [show partR 5 a.T l = .error er by simp only [partR, i64R, mapR, hq]]
    have HC := Lib.hid (fun W => hq ▸ hC W)
    clear hq hC
    go_enter Try.func56, Try.ntmps56
    go_wp2_with fail
    refine (HC.out _).mono ?_
    rintro e w1 ⟨b1, rfl⟩
    have ST' := Lib.hid ((ST.out _ _ (by kernel_rfl) rfl).call b1)
    clear b1 HC
    clear ST; have ST := ST'; clear ST'
    go_wp2_with (first
      | ((with_reducible refine at_store 61 60 ?_); refine wpList_store_cell rfl 2 (.tmp 61) (.tmp 60) rfl rfl w.heap.size 37 (.int .i64 (toI64 0).1) rfl (by kernel_rfl) rfl 44 _ ST.out.k3 (by rw [tyTx.arr]; omega) (by kernel_rfl) ?_; intro v1 ox bx; rw [TxA.set_bal] at bx; have ST' := Lib.hid (ST.out.set (a' := ({ a with T := { a.T with bal := toI64 0 } } : TxA)) ox bx); clear ox bx; clear ST; have ST := ST'; clear ST'; obtain ⟨cz, hz, kz⟩ := ST.out.k2; have KZ := Lib.hid kz; have HZ := Lib.hid hz; have KA := Lib.hid ST.out.k3; clear kz hz)
      | ((with_reducible refine at_load 3 ?_); refine tyTx.wpList_load rfl (.tmp 3) rfl w.heap.size 0 rfl ({ a with T := { a.T with bal := toI64 0 } } : TxA) (by simpa using RowC.of_blk KA.out) ?_)
      | ((with_reducible refine at_store 6 62 ?_); refine tyTx.wpList_store rfl (.tmp 6) (.tmp 62) rfl rfl (w.heap.size + 1) ({ a with T := { a.T with bal := toI64 0 } } : TxA) rfl rfl 44 cz KZ.out HZ.out ?_; intro wz oz bz))
    exact bodyPost_ret (results_cell_tmp2 rfl _ _ (w.heap.size + 1) 44 _ (0, 0) _ rfl bz Try.underlying44 rfl (by rw [tyTx.arr]; kernel_rfl)) rfl ⟨ST.out.below.trans (oz.below (by simp)), _, [], rfl⟩
  | ok x =>
    obtain ⟨n, r⟩ := x
    have hn : n < 18446744073709551616 := ok_of (good_get 8) hq
    rw [show partR 5 a.T l = .ok ({ a.T with bal := toI64 n }, r) by simp only [partR, i64R, mapR, hq]]
    have HV := Lib.hid (show Value.int .i64 (wrap64 (n : Int)) = .int .i64 (toI64 n).1 from congrArg _ (by unfold wrap64 toI64; simp only; split <;> omega))
    have HC := Lib.hid (fun W => hq ▸ hC W)
    clear hq hC hn
    go_enter Try.func56, Try.ntmps56
    go_wp2_with fail
    refine (HC.out _).mono ?_
    rintro e w1 ⟨b1, rfl⟩
    have ST' := Lib.hid ((ST.out _ _ (by kernel_rfl) rfl).call b1)
    clear b1 HC
    clear ST; have ST := ST'; clear ST'
    go_wp2_with (first
      | ((with_reducible refine at_store 61 60 ?_); refine wpList_store_cell rfl 2 (.tmp 61) (.tmp 60) rfl rfl w.heap.size 37 (.int .i64 (toI64 n).1) rfl HV.out rfl 44 _ ST.out.k3 (by rw [tyTx.arr]; omega) (by kernel_rfl) ?_; intro v1 ox bx; rw [TxA.set_bal] at bx; have ST' := Lib.hid (ST.out.set (a' := ({ a with T := { a.T with bal := toI64 n } } : TxA)) ox bx); clear ox bx; clear ST; have ST := ST'; clear ST'; obtain ⟨cz, hz, kz⟩ := ST.out.k2; have KZ := Lib.hid kz; have HZ := Lib.hid hz; have KA := Lib.hid ST.out.k3; clear kz hz)
      | ((with_reducible refine at_load 3 ?_); refine tyTx.wpList_load rfl (.tmp 3) rfl w.heap.size 0 rfl ({ a with T := { a.T with bal := toI64 n } } : TxA) (by simpa using RowC.of_blk KA.out) ?_)
      | ((with_reducible refine at_store 6 62 ?_); refine tyTx.wpList_store rfl (.tmp 6) (.tmp 62) rfl rfl (w.heap.size + 1) ({ a with T := { a.T with bal := toI64 n } } : TxA) rfl rfl 44 cz KZ.out HZ.out ?_; intro wz oz bz))
    exact bodyPost_ret (results_cell_tmp2 rfl _ _ (w.heap.size + 1) 44 _ (0, 0) _ rfl bz Try.underlying44 rfl (by rw [tyTx.arr]; kernel_rfl)) rfl ⟨ST.out.below.trans (oz.below (by simp)), ({ a with T := { a.T with bal := toI64 n } } : TxA), rfl, rfl, (HI.out.to.from (ST.out.below.trans (oz.below (by simp)))).bal _, fun q => absurd q (by omega), fun q => absurd q (by omega), fun q => absurd q (by omega)⟩
set_option maxRecDepth 20000 in
set_option maxHeartbeats 4000000 in
theorem part4_r (a : TxA) (l : List UInt8) (hs : l.length ≤ 1000000) (w : World) (h : PtI 4 w a) :
    Calls Try.prog 56 #[.agg a.cells.toArray, .int .i64 4, .string ⟨l.toArray⟩] w (EndP 4 w (partR 4 a.T l)) := by
  have hC := rMany_r l hs
  have ST := Lib.hid (PtS.two (w0 := w) (a := a))
  have HI := Lib.hid h
  clear h
  cases hq : numR l with
  | error er =>
    have he0 : er ≠ 0 := by rcases errs_num l er hq with h | h | h <;> omega
    have hd : (er == 0) = false := beq_eq_false_iff_ne.mpr he0
    rw [show partR 4 a.T l = .error er by simp only [partR, manyR, mapR, thenR, hq]]
    have HC := Lib.hid (fun W => hq ▸ hC W)
    clear hq hC he0
    go_enter Try.func56, Try.ntmps56
    go_wp2_with fail
    refine (HC.out _).mono ?_
    rintro e w1 ⟨b1, rfl⟩
    have ST' := Lib.hid ((ST.out _ _ (by kernel_rfl) rfl).call b1)
    clear b1 HC
    clear ST; have ST := ST'; clear ST'
    obtain ⟨cz, hz, kz⟩ := ST.out.k2; have KZ := Lib.hid kz; have HZ := Lib.hid hz; have KA := Lib.hid ST.out.k3; clear kz hz
    go_wp2_with (first
      | ((with_reducible refine at_load 3 ?_); refine tyTx.wpList_load rfl (.tmp 3) rfl w.heap.size 0 rfl a (by simpa using RowC.of_blk KA.out) ?_)
      | ((with_reducible refine at_store 6 73 ?_); refine tyTx.wpList_store rfl (.tmp 6) (.tmp 73) rfl rfl (w.heap.size + 1) a rfl rfl 44 cz KZ.out HZ.out ?_; intro wz oz bz))
    exact bodyPost_ret (results_cell_tmp2 rfl _ _ (w.heap.size + 1) 44 _ (0, 0) _ rfl bz Try.underlying44 rfl (by rw [tyTx.arr]; kernel_rfl)) rfl ⟨ST.out.below.trans (oz.below (by simp)), a, [], rfl⟩
  | ok x =>
    obtain ⟨n, r⟩ := x
    have hn : n ≤ 40 := ok_of good_num hq
    have hr : r.length ≤ 1000000 := rest_len good_num hq hs
    have HC := Lib.hid (fun W => hq ▸ hC W)
    clear hC
    have hk := rKeys_r n (by omega) r (by first | exact hr | exact hr2)
    cases hq2 : listR keyR n r with
    | error er =>
      rw [show partR 4 a.T l = .error er by simp only [partR, manyR, mapR, thenR, hq, hq2]]
      have HK := Lib.hid (fun W => hq2 ▸ hk W)
      clear hq hq2 hk
      go_enter Try.func56, Try.ntmps56
      go_wp2_with fail
      refine (HC.out _).mono ?_
      rintro e w1 ⟨b1, rfl⟩
      have ST' := Lib.hid ((ST.out _ _ (by kernel_rfl) rfl).call b1)
      clear b1 HC
      clear ST; have ST := ST'; clear ST'
      go_wp2_with fail
      refine (HK.out _).mono ?_
      rintro e w2 ⟨b2, rfl⟩
      have ST' := Lib.hid (ST.out.call b2)
      clear b2 HK
      clear ST; have ST := ST'; clear ST'
      go_wp2_with (first
        | ((with_reducible refine at_store 191 190 ?_); refine wpList_store_cell rfl 42 (.tmp 191) (.tmp 190) rfl rfl w.heap.size 36 (.slice none ([] : List K32).length 0) rfl rfl rfl 44 _ ST.out.k3 (by rw [tyTx.arr]; omega) (by kernel_rfl) ?_; intro v1 ox bx; rw [TxA.set_notes] at bx; have ST' := Lib.hid (ST.out.set (a' := ({ a with T := { (a).T with notes := [] }, At := none, ct := 0 } : TxA)) ox bx); clear ox bx; clear ST; have ST := ST'; clear ST'; obtain ⟨cz, hz, kz⟩ := ST.out.k2; have KZ := Lib.hid kz; have HZ := Lib.hid hz; have KA := Lib.hid ST.out.k3; clear kz hz)
        | ((with_reducible refine at_load 3 ?_); refine tyTx.wpList_load rfl (.tmp 3) rfl w.heap.size 0 rfl ({ a with T := { (a).T with notes := [] }, At := none, ct := 0 } : TxA) (by simpa using RowC.of_blk KA.out) ?_)
        | ((with_reducible refine at_store 6 192 ?_); refine tyTx.wpList_store rfl (.tmp 6) (.tmp 192) rfl rfl (w.heap.size + 1) ({ a with T := { (a).T with notes := [] }, At := none, ct := 0 } : TxA) rfl rfl 44 cz KZ.out HZ.out ?_; intro wz oz bz))
      exact bodyPost_ret (results_cell_tmp2 rfl _ _ (w.heap.size + 1) 44 _ (0, 0) _ rfl bz Try.underlying44 rfl (by rw [tyTx.arr]; kernel_rfl)) rfl ⟨ST.out.below.trans (oz.below (by simp)), _, [], rfl⟩
    | ok y =>
      obtain ⟨ls, r2⟩ := y
      rw [show partR 4 a.T l = .ok ({ a.T with notes := ls }, r2) by simp only [partR, manyR, mapR, thenR, hq, hq2]]
      have HK := Lib.hid (fun W => hq2 ▸ hk W)
      clear hq hq2 hk
      go_enter Try.func56, Try.ntmps56
      go_wp2_with fail
      refine (HC.out _).mono ?_
      rintro e w1 ⟨b1, rfl⟩
      have ST' := Lib.hid ((ST.out _ _ (by kernel_rfl) rfl).call b1)
      clear b1 HC
      clear ST; have ST := ST'; clear ST'
      go_wp2_with fail
      refine (HK.out _).mono ?_
      rintro e w2 ⟨b2, A2, c2, rfl, own2⟩
      have OW := Lib.hid own2
      have ST' := Lib.hid (ST.out.call b2)
      clear b2 HK own2
      clear ST; have ST := ST'; clear ST'
      go_wp2_with (first
        | ((with_reducible refine at_store 191 190 ?_); refine wpList_store_cell rfl 42 (.tmp 191) (.tmp 190) rfl rfl w.heap.size 36 (.slice A2 (ls : List K32).length c2) rfl rfl rfl 44 _ ST.out.k3 (by rw [tyTx.arr]; omega) (by kernel_rfl) ?_; intro v1 ox bx; rw [TxA.set_notes] at bx; have OV := Lib.hid (xown_only OW.out ox ST.out.k3 (by decide)); have ST' := Lib.hid (ST.out.set (a' := ({ a with T := { (a).T with notes := ls }, At := A2, ct := c2 } : TxA)) ox bx); clear ox bx; clear ST; have ST := ST'; clear ST'; obtain ⟨cz, hz, kz⟩ := ST.out.k2; have KZ := Lib.hid kz; have HZ := Lib.hid hz; have KA := Lib.hid ST.out.k3; clear kz hz)
        | ((with_reducible refine at_load 3 ?_); refine tyTx.wpList_load rfl (.tmp 3) rfl w.heap.size 0 rfl ({ a with T := { (a).T with notes := ls }, At := A2, ct := c2 } : TxA) (by simpa using RowC.of_blk KA.out) ?_)
        | ((with_reducible refine at_store 6 192 ?_); refine tyTx.wpList_store rfl (.tmp 6) (.tmp 192) rfl rfl (w.heap.size + 1) ({ a with T := { (a).T with notes := ls }, At := A2, ct := c2 } : TxA) rfl rfl 44 cz KZ.out HZ.out ?_; intro wz oz bz))
      exact bodyPost_ret (results_cell_tmp2 rfl _ _ (w.heap.size + 1) 44 _ (0, 0) _ rfl bz Try.underlying44 rfl (by rw [tyTx.arr]; kernel_rfl)) rfl ⟨ST.out.below.trans (oz.below (by simp)), ({ a with T := { (a).T with notes := ls }, At := A2, ct := c2 } : TxA), rfl, rfl, (HI.out.to.from (ST.out.below.trans (oz.below (by simp)))).setNotes _ _ _ (xown_only OV.out oz KZ.out (by decide)), fun q => absurd q (by omega), fun q => absurd q (by omega), fun q => absurd q (by omega)⟩
set_option maxRecDepth 20000 in
set_option maxHeartbeats 4000000 in
theorem part3_r (a : TxA) (l : List UInt8) (hs : l.length ≤ 1000000) (w : World) (h : PtI 3 w a) :
    Calls Try.prog 56 #[.agg a.cells.toArray, .int .i64 3, .string ⟨l.toArray⟩] w (EndP 3 w (partR 3 a.T l)) := by
  have hC := rMany_r l hs
  have ST := Lib.hid (PtS.two (w0 := w) (a := a))
  have HI := Lib.hid h
  clear h
  cases hq : numR l with
  | error er =>
    have he0 : er ≠ 0 := by rcases errs_num l er hq with h | h | h <;> omega
    have hd : (er == 0) = false := beq_eq_false_iff_ne.mpr he0
    rw [show partR 3 a.T l = .error er by simp only [partR, nullR, mapR, thenR, hq]]
    have HC := Lib.hid (fun W => hq ▸ hC W)
    clear hq hC he0
    go_enter Try.func56, Try.ntmps56
    go_wp2_with fail
    refine (HC.out _).mono ?_
    rintro e w1 ⟨b1, rfl⟩
    have ST' := Lib.hid ((ST.out _ _ (by kernel_rfl) rfl).call b1)
    clear b1 HC
    clear ST; have ST := ST'; clear ST'
    obtain ⟨cz, hz, kz⟩ := ST.out.k2; have KZ := Lib.hid kz; have HZ := Lib.hid hz; have KA := Lib.hid ST.out.k3; clear kz hz
    go_wp2_with (first
      | ((with_reducible refine at_load 3 ?_); refine tyTx.wpList_load rfl (.tmp 3) rfl w.heap.size 0 rfl a (by simpa using RowC.of_blk KA.out) ?_)
      | ((with_reducible refine at_store 6 73 ?_); refine tyTx.wpList_store rfl (.tmp 6) (.tmp 73) rfl rfl (w.heap.size + 1) a rfl rfl 44 cz KZ.out HZ.out ?_; intro wz oz bz))
    exact bodyPost_ret (results_cell_tmp2 rfl _ _ (w.heap.size + 1) 44 _ (0, 0) _ rfl bz Try.underlying44 rfl (by rw [tyTx.arr]; kernel_rfl)) rfl ⟨ST.out.below.trans (oz.below (by simp)), a, [], rfl⟩
  | ok x =>
    obtain ⟨n, r⟩ := x
    have hn : n ≤ 40 := ok_of good_num hq
    have hr : r.length ≤ 1000000 := rest_len good_num hq hs
    have HC := Lib.hid (fun W => hq ▸ hC W)
    clear hC
    cases n with
    | zero =>
      have hk := rKeys_r 0 (by omega) r (by first | exact hr | exact hr2)
      cases hq2 : listR keyR 0 r with
      | error er =>
        rw [show partR 3 a.T l = .error er by simp only [partR, nullR, mapR, thenR, hq, ancR, if_true, hq2]]
        have HK := Lib.hid (fun W => hq2 ▸ hk W)
        clear hq hq2 hk
        go_enter Try.func56, Try.ntmps56
        go_wp2_with fail
        refine (HC.out _).mono ?_
        rintro e w1 ⟨b1, rfl⟩
        have ST' := Lib.hid ((ST.out _ _ (by kernel_rfl) rfl).call b1)
        clear b1 HC
        clear ST; have ST := ST'; clear ST'
        go_wp2_with fail
        refine (HK.out _).mono ?_
        rintro e w2 ⟨b2, rfl⟩
        have ST' := Lib.hid (ST.out.call b2)
        clear b2 HK
        clear ST; have ST := ST'; clear ST'
        go_wp2_with (first
          | ((with_reducible refine at_store 179 178 ?_); refine wpList_store_cell rfl 42 (.tmp 179) (.tmp 178) rfl rfl w.heap.size 35 (.slice none ([] : List K32).length 0) rfl rfl rfl 44 _ ST.out.k3 (by rw [tyTx.arr]; omega) (by kernel_rfl) ?_; intro v1 ox bx; rw [TxA.set_nulls] at bx; have ST' := Lib.hid (ST.out.set (a' := ({ a with T := { (a).T with nulls := [] }, An := none, cn := 0 } : TxA)) ox bx); clear ox bx; clear ST; have ST := ST'; clear ST'; obtain ⟨cz, hz, kz⟩ := ST.out.k2; have KZ := Lib.hid kz; have HZ := Lib.hid hz; have KA := Lib.hid ST.out.k3; clear kz hz)
          | ((with_reducible refine at_load 3 ?_); refine tyTx.wpList_load rfl (.tmp 3) rfl w.heap.size 0 rfl ({ a with T := { (a).T with nulls := [] }, An := none, cn := 0 } : TxA) (by simpa using RowC.of_blk KA.out) ?_)
          | ((with_reducible refine at_store 6 180 ?_); refine tyTx.wpList_store rfl (.tmp 6) (.tmp 180) rfl rfl (w.heap.size + 1) ({ a with T := { (a).T with nulls := [] }, An := none, cn := 0 } : TxA) rfl rfl 44 cz KZ.out HZ.out ?_; intro wz oz bz))
        exact bodyPost_ret (results_cell_tmp2 rfl _ _ (w.heap.size + 1) 44 _ (0, 0) _ rfl bz Try.underlying44 rfl (by rw [tyTx.arr]; kernel_rfl)) rfl ⟨ST.out.below.trans (oz.below (by simp)), _, [], rfl⟩
      | ok y =>
        obtain ⟨ls, r2⟩ := y
        rw [show partR 3 a.T l = .ok ({ a.T with anchor := zeroKey, nulls := ls }, r2) by simp only [partR, nullR, mapR, thenR, hq, ancR, if_true, hq2]]
        have HK := Lib.hid (fun W => hq2 ▸ hk W)
        clear hq hq2 hk
        go_enter Try.func56, Try.ntmps56
        go_wp2_with fail
        refine (HC.out _).mono ?_
        rintro e w1 ⟨b1, rfl⟩
        have ST' := Lib.hid ((ST.out _ _ (by kernel_rfl) rfl).call b1)
        clear b1 HC
        clear ST; have ST := ST'; clear ST'
        go_wp2_with fail
        refine (HK.out _).mono ?_
        rintro e w2 ⟨b2, A2, c2, rfl, own2⟩
        have OW := Lib.hid own2
        have ST' := Lib.hid (ST.out.call b2)
        clear b2 HK own2
        clear ST; have ST := ST'; clear ST'
        go_wp2_with (first
          | ((with_reducible refine at_store 179 178 ?_); refine wpList_store_cell rfl 42 (.tmp 179) (.tmp 178) rfl rfl w.heap.size 35 (.slice A2 (ls : List K32).length c2) rfl rfl rfl 44 _ ST.out.k3 (by rw [tyTx.arr]; omega) (by kernel_rfl) ?_; intro v1 ox bx; rw [TxA.set_nulls] at bx; have OV := Lib.hid (xown_only OW.out ox ST.out.k3 (by decide)); have ST' := Lib.hid (ST.out.set (a' := ({ a with T := { (a).T with nulls := ls }, An := A2, cn := c2 } : TxA)) ox bx); clear ox bx; clear ST; have ST := ST'; clear ST'; obtain ⟨cz, hz, kz⟩ := ST.out.k2; have KZ := Lib.hid kz; have HZ := Lib.hid hz; have KA := Lib.hid ST.out.k3; clear kz hz)
          | ((with_reducible refine at_load 3 ?_); refine tyTx.wpList_load rfl (.tmp 3) rfl w.heap.size 0 rfl ({ a with T := { (a).T with nulls := ls }, An := A2, cn := c2 } : TxA) (by simpa using RowC.of_blk KA.out) ?_)
          | ((with_reducible refine at_store 6 180 ?_); refine tyTx.wpList_store rfl (.tmp 6) (.tmp 180) rfl rfl (w.heap.size + 1) ({ a with T := { (a).T with nulls := ls }, An := A2, cn := c2 } : TxA) rfl rfl 44 cz KZ.out HZ.out ?_; intro wz oz bz))
        exact bodyPost_ret (results_cell_tmp2 rfl _ _ (w.heap.size + 1) 44 _ (0, 0) _ rfl bz Try.underlying44 rfl (by rw [tyTx.arr]; kernel_rfl)) rfl ⟨ST.out.below.trans (oz.below (by simp)), ({ a with T := { (a).T with nulls := ls }, An := A2, cn := c2 } : TxA), (by show ({ a.T with nulls := ls } : TxV) = { a.T with anchor := zeroKey, nulls := ls }; rw [← HI.out.anc (by omega)]), rfl, (HI.out.to.from (ST.out.below.trans (oz.below (by simp)))).setNulls _ _ _ (xown_only OV.out oz KZ.out (by decide)), fun q => absurd q (by omega), fun q => absurd q (by omega), fun q => absurd q (by omega)⟩
    | succ n =>
      have hk0 := rKey_r r hr
      have hpos : decide ((0 : Int) < ((n + 1 : Nat) : Int)) = true := by simp
      cases hq1 : keyR r with
      | error er =>
        have he0 : er ≠ 0 := by rcases errs_key r er hq1 with h | h | h <;> omega
        have hd : (er == 0) = false := beq_eq_false_iff_ne.mpr he0
        rw [show partR 3 a.T l = .error er by simp only [partR, nullR, mapR, thenR, hq, ancR, Nat.add_one_ne_zero, if_false, hq1]]
        have HK0 := Lib.hid (fun W => hq1 ▸ hk0 W)
        clear hq hq1 hk0 he0
        go_enter Try.func56, Try.ntmps56
        go_wp2_with fail
        refine (HC.out _).mono ?_
        rintro e w1 ⟨b1, rfl⟩
        have ST' := Lib.hid ((ST.out _ _ (by kernel_rfl) rfl).call b1)
        clear b1 HC
        clear ST; have ST := ST'; clear ST'
        go_wp2_with fail
        refine (HK0.out _).mono ?_
        rintro e w2 ⟨b2, rfl⟩
        have ST' := Lib.hid (ST.out.call b2)
        clear b2 HK0
        clear ST; have ST := ST'; clear ST'
        go_wp2_with (first
          | ((with_reducible refine at_store 29 161 ?_); refine tyKc.wpList_store rfl (.tmp 29) (.tmp 161) rfl rfl w2.heap.size zeroKey rfl rfl 24 _ (Blk.new w2 _ _) rfl ?_; intro w3 o3 b3
             have ST' := Lib.hid (ST.out.call (((Below.refl w2.heap.size w2).alloc (Nat.le_refl _) _).trans (o3.below (by simp))))
             clear b3 o3
             clear ST; have ST := ST'; clear ST'
             obtain ⟨cz, hz, kz⟩ := ST.out.k2; have KZ := Lib.hid kz; have HZ := Lib.hid hz; have KA := Lib.hid ST.out.k3; clear kz hz)
          | ((with_reducible refine at_load 3 ?_); refine tyTx.wpList_load rfl (.tmp 3) rfl w.heap.size 0 rfl a (by simpa using RowC.of_blk KA.out) ?_)
          | ((with_reducible refine at_store 6 166 ?_); refine tyTx.wpList_store rfl (.tmp 6) (.tmp 166) rfl rfl (w.heap.size + 1) a rfl rfl 44 cz KZ.out HZ.out ?_; intro wz oz bz))
        exact bodyPost_ret (results_cell_tmp2 rfl _ _ (w.heap.size + 1) 44 _ (0, 0) _ rfl bz Try.underlying44 rfl (by rw [tyTx.arr]; kernel_rfl)) rfl ⟨ST.out.below.trans (oz.below (by simp)), a, [], rfl⟩
      | ok y1 =>
        obtain ⟨k, r1⟩ := y1
        have hr2 : r1.length ≤ 1000000 := rest_len good_key hq1 hr
        have hk := rKeys_r (n + 1) (by omega) r1 (by first | exact hr | exact hr2)
        cases hq2 : listR keyR (n + 1) r1 with
        | error er =>
          rw [show partR 3 a.T l = .error er by simp only [partR, nullR, mapR, thenR, hq, ancR, Nat.add_one_ne_zero, if_false, hq1, hq2]]
          have HK := Lib.hid (fun W => hq2 ▸ hk W)
          have HK0 := Lib.hid (fun W => hq1 ▸ hk0 W)
          clear hq hq1 hq2 hk hk0
          go_enter Try.func56, Try.ntmps56
          go_wp2_with fail
          refine (HC.out _).mono ?_
          rintro e w1 ⟨b1, rfl⟩
          have ST' := Lib.hid ((ST.out _ _ (by kernel_rfl) rfl).call b1)
          clear b1 HC
          clear ST; have ST := ST'; clear ST'
          go_wp2_with fail
          refine (HK0.out _).mono ?_
          rintro e w2 ⟨b2, rfl⟩
          have ST' := Lib.hid (ST.out.call b2)
          clear b2 HK0
          clear ST; have ST := ST'; clear ST'
          go_wp2_with (first
            | ((with_reducible refine at_store 29 161 ?_); refine tyKc.wpList_store rfl (.tmp 29) (.tmp 161) rfl rfl w2.heap.size k rfl rfl 24 _ (Blk.new w2 _ _) rfl ?_; intro w3 o3 b3
               have KK := Lib.hid b3
               have ST' := Lib.hid (ST.out.call (((Below.refl w2.heap.size w2).alloc (Nat.le_refl _) _).trans (o3.below (by simp))))
               clear b3 o3
               clear ST; have ST := ST'; clear ST')
            | ((with_reducible refine at_load 29 ?_); refine tyKy.wpList_load rfl (.tmp 29) rfl w2.heap.size 0 rfl k (by simpa [encK] using RowC.of_blk KK.out) ?_)
            | ((with_reducible refine at_store 169 168 ?_); refine tyKc.wpList_storeAt rfl (.tmp 169) (.tmp 168) rfl rfl w.heap.size 3 k rfl rfl 44 _ ST.out.k3 (by rw [TxA.len]; omega) ?_; intro w4 ox bx; rw [TxA.set_anchor] at bx
               have ST' := Lib.hid (ST.out.set (a' := ({ a with T := { a.T with anchor := k } } : TxA)) ox bx)
               clear ox bx
               clear ST; have ST := ST'; clear ST'))
          refine (HK.out _).mono ?_
          rintro e w5 ⟨b2, rfl⟩
          have ST' := Lib.hid (ST.out.call b2)
          clear b2 HK
          clear ST; have ST := ST'; clear ST'
          go_wp2_with (first
            | ((with_reducible refine at_store 179 178 ?_); refine wpList_store_cell rfl 42 (.tmp 179) (.tmp 178) rfl rfl w.heap.size 35 (.slice none ([] : List K32).length 0) rfl rfl rfl 44 _ ST.out.k3 (by rw [tyTx.arr]; omega) (by kernel_rfl) ?_; intro v1 ox bx; rw [TxA.set_nulls] at bx; have ST' := Lib.hid (ST.out.set (a' := ({ ({ a with T := { a.T with anchor := k } } : TxA) with T := { (({ a with T := { a.T with anchor := k } } : TxA)).T with nulls := [] }, An := none, cn := 0 } : TxA)) ox bx); clear ox bx; clear ST; have ST := ST'; clear ST'; obtain ⟨cz, hz, kz⟩ := ST.out.k2; have KZ := Lib.hid kz; have HZ := Lib.hid hz; have KA := Lib.hid ST.out.k3; clear kz hz)
            | ((with_reducible refine at_load 3 ?_); refine tyTx.wpList_load rfl (.tmp 3) rfl w.heap.size 0 rfl ({ ({ a with T := { a.T with anchor := k } } : TxA) with T := { (({ a with T := { a.T with anchor := k } } : TxA)).T with nulls := [] }, An := none, cn := 0 } : TxA) (by simpa using RowC.of_blk KA.out) ?_)
            | ((with_reducible refine at_store 6 180 ?_); refine tyTx.wpList_store rfl (.tmp 6) (.tmp 180) rfl rfl (w.heap.size + 1) ({ ({ a with T := { a.T with anchor := k } } : TxA) with T := { (({ a with T := { a.T with anchor := k } } : TxA)).T with nulls := [] }, An := none, cn := 0 } : TxA) rfl rfl 44 cz KZ.out HZ.out ?_; intro wz oz bz))
          exact bodyPost_ret (results_cell_tmp2 rfl _ _ (w.heap.size + 1) 44 _ (0, 0) _ rfl bz Try.underlying44 rfl (by rw [tyTx.arr]; kernel_rfl)) rfl ⟨ST.out.below.trans (oz.below (by simp)), _, [], rfl⟩
        | ok y =>
          obtain ⟨ls, r2⟩ := y
          rw [show partR 3 a.T l = .ok ({ a.T with anchor := k, nulls := ls }, r2) by simp only [partR, nullR, mapR, thenR, hq, ancR, Nat.add_one_ne_zero, if_false, hq1, hq2]]
          have HK := Lib.hid (fun W => hq2 ▸ hk W)
          have HK0 := Lib.hid (fun W => hq1 ▸ hk0 W)
          clear hq hq1 hq2 hk hk0
          go_enter Try.func56, Try.ntmps56
          go_wp2_with fail
          refine (HC.out _).mono ?_
          rintro e w1 ⟨b1, rfl⟩
          have ST' := Lib.hid ((ST.out _ _ (by kernel_rfl) rfl).call b1)
          clear b1 HC
          clear ST; have ST := ST'; clear ST'
          go_wp2_with fail
          refine (HK0.out _).mono ?_
          rintro e w2 ⟨b2, rfl⟩
          have ST' := Lib.hid (ST.out.call b2)
          clear b2 HK0
          clear ST; have ST := ST'; clear ST'
          go_wp2_with (first
            | ((with_reducible refine at_store 29 161 ?_); refine tyKc.wpList_store rfl (.tmp 29) (.tmp 161) rfl rfl w2.heap.size k rfl rfl 24 _ (Blk.new w2 _ _) rfl ?_; intro w3 o3 b3
               have KK := Lib.hid b3
               have ST' := Lib.hid (ST.out.call (((Below.refl w2.heap.size w2).alloc (Nat.le_refl _) _).trans (o3.below (by simp))))
               clear b3 o3
               clear ST; have ST := ST'; clear ST')
            | ((with_reducible refine at_load 29 ?_); refine tyKy.wpList_load rfl (.tmp 29) rfl w2.heap.size 0 rfl k (by simpa [encK] using RowC.of_blk KK.out) ?_)
            | ((with_reducible refine at_store 169 168 ?_); refine tyKc.wpList_storeAt rfl (.tmp 169) (.tmp 168) rfl rfl w.heap.size 3 k rfl rfl 44 _ ST.out.k3 (by rw [TxA.len]; omega) ?_; intro w4 ox bx; rw [TxA.set_anchor] at bx
               have ST' := Lib.hid (ST.out.set (a' := ({ a with T := { a.T with anchor := k } } : TxA)) ox bx)
               clear ox bx
               clear ST; have ST := ST'; clear ST'))
          refine (HK.out _).mono ?_
          rintro e w5 ⟨b2, A2, c2, rfl, own2⟩
          have OW := Lib.hid own2
          have ST' := Lib.hid (ST.out.call b2)
          clear b2 HK own2
          clear ST; have ST := ST'; clear ST'
          go_wp2_with (first
            | ((with_reducible refine at_store 179 178 ?_); refine wpList_store_cell rfl 42 (.tmp 179) (.tmp 178) rfl rfl w.heap.size 35 (.slice A2 (ls : List K32).length c2) rfl rfl rfl 44 _ ST.out.k3 (by rw [tyTx.arr]; omega) (by kernel_rfl) ?_; intro v1 ox bx; rw [TxA.set_nulls] at bx; have OV := Lib.hid (xown_only OW.out ox ST.out.k3 (by decide)); have ST' := Lib.hid (ST.out.set (a' := ({ ({ a with T := { a.T with anchor := k } } : TxA) with T := { (({ a with T := { a.T with anchor := k } } : TxA)).T with nulls := ls }, An := A2, cn := c2 } : TxA)) ox bx); clear ox bx; clear ST; have ST := ST'; clear ST'; obtain ⟨cz, hz, kz⟩ := ST.out.k2; have KZ := Lib.hid kz; have HZ := Lib.hid hz; have KA := Lib.hid ST.out.k3; clear kz hz)
            | ((with_reducible refine at_load 3 ?_); refine tyTx.wpList_load rfl (.tmp 3) rfl w.heap.size 0 rfl ({ ({ a with T := { a.T with anchor := k } } : TxA) with T := { (({ a with T := { a.T with anchor := k } } : TxA)).T with nulls := ls }, An := A2, cn := c2 } : TxA) (by simpa using RowC.of_blk KA.out) ?_)
            | ((with_reducible refine at_store 6 180 ?_); refine tyTx.wpList_store rfl (.tmp 6) (.tmp 180) rfl rfl (w.heap.size + 1) ({ ({ a with T := { a.T with anchor := k } } : TxA) with T := { (({ a with T := { a.T with anchor := k } } : TxA)).T with nulls := ls }, An := A2, cn := c2 } : TxA) rfl rfl 44 cz KZ.out HZ.out ?_; intro wz oz bz))
          exact bodyPost_ret (results_cell_tmp2 rfl _ _ (w.heap.size + 1) 44 _ (0, 0) _ rfl bz Try.underlying44 rfl (by rw [tyTx.arr]; kernel_rfl)) rfl ⟨ST.out.below.trans (oz.below (by simp)), ({ ({ a with T := { a.T with anchor := k } } : TxA) with T := { (({ a with T := { a.T with anchor := k } } : TxA)).T with nulls := ls }, An := A2, cn := c2 } : TxA), rfl, rfl, ((HI.out.to.from (ST.out.below.trans (oz.below (by simp)))).anchor k).setNulls _ _ _ (xown_only OV.out oz KZ.out (by decide)), fun q => absurd q (by omega), fun q => absurd q (by omega), fun q => absurd q (by omega)⟩
set_option maxRecDepth 20000 in
set_option maxHeartbeats 4000000 in
theorem part1_r (a : TxA) (l : List UInt8) (hs : l.length ≤ 1000000) (w : World) (h : PtI 1 w a) :
    Calls Try.prog 56 #[.agg a.cells.toArray, .int .i64 1, .string ⟨l.toArray⟩] w (EndP 1 w (partR 1 a.T l)) := by
  have hC := rMany_r l hs
  have ST := Lib.hid (PtS.two (w0 := w) (a := a))
  have HI := Lib.hid h
  clear h
  cases hq : numR l with
  | error er =>
    have he0 : er ≠ 0 := by rcases errs_num l er hq with h | h | h <;> omega
    have hd : (er == 0) = false := beq_eq_false_iff_ne.mpr he0
    rw [show partR 1 a.T l = .error er by simp only [partR, manyR, mapR, thenR, hq]]
    have HC := Lib.hid (fun W => hq ▸ hC W)
    clear hq hC he0
    go_enter Try.func56, Try.ntmps56
    go_wp2_with fail
    refine (HC.out _).mono ?_
    rintro e w1 ⟨b1, rfl⟩
    have ST' := Lib.hid ((ST.out _ _ (by kernel_rfl) rfl).call b1)
    clear b1 HC
    clear ST; have ST := ST'; clear ST'
    obtain ⟨cz, hz, kz⟩ := ST.out.k2; have KZ := Lib.hid kz; have HZ := Lib.hid hz; have KA := Lib.hid ST.out.k3; clear kz hz
    go_wp2_with (first
      | ((with_reducible refine at_load 3 ?_); refine tyTx.wpList_load rfl (.tmp 3) rfl w.heap.size 0 rfl a (by simpa using RowC.of_blk KA.out) ?_)
      | ((with_reducible refine at_store 6 73 ?_); refine tyTx.wpList_store rfl (.tmp 6) (.tmp 73) rfl rfl (w.heap.size + 1) a rfl rfl 44 cz KZ.out HZ.out ?_; intro wz oz bz))
    exact bodyPost_ret (results_cell_tmp2 rfl _ _ (w.heap.size + 1) 44 _ (0, 0) _ rfl bz Try.underlying44 rfl (by rw [tyTx.arr]; kernel_rfl)) rfl ⟨ST.out.below.trans (oz.below (by simp)), a, [], rfl⟩
  | ok x =>
    obtain ⟨n, r⟩ := x
    have hn : n ≤ 40 := ok_of good_num hq
    have hr : r.length ≤ 1000000 := rest_len good_num hq hs
    have HC := Lib.hid (fun W => hq ▸ hC W)
    clear hC
    obtain ⟨X, hX⟩ : ∃ X, listR ptR n r = X := ⟨_, rfl⟩
    have hY : partR 1 a.T l = ontoL (fun ls => { a.T with ins := ls }) X := by
      rw [← hX]
      simp only [partR, manyR, mapR, thenR, hq]
      cases listR ptR n r <;> rfl
    have HX := Lib.hid hX
    obtain ⟨Y, hYY⟩ : ∃ Y, partR 1 a.T l = Y := ⟨_, rfl⟩
    rw [hYY] at hY ⊢
    have HY := Lib.hid hY
    have HA := Lib.hid (show ({ a with T := { a.T with ins := [] }, Ai := none, ci := 0 } : TxA) = a by
      obtain ⟨h1, h2, h3⟩ := HI.out.ins (by omega)
      obtain ⟨⟨e, i, o, k, nl, nt, b⟩, Ai, ci, Ao, co, An, cn, At, ct⟩ := a
      simp only at h1 h2 h3
      subst h1 h2 h3
      rfl)
    clear hq hX hY hYY
    go_enter Try.func56, Try.ntmps56
    go_wp2_with fail
    refine (HC.out _).mono ?_
    rintro e w0 ⟨b1, rfl⟩
    have ST0 := Lib.hid ((ST.out _ _ (by kernel_rfl) rfl).call b1)
    clear b1 HC ST
    go_wp2_with fail
    go_loopw [13, 15] (fun s i wr => ∃ (lst : List (K32 × IntV .u32)) (r : List UInt8) (m : Nat) (A : Option Addr) (c : Nat), lst.length + m = n ∧ i = .int .i64 (lst.length : Nat) ∧ s = .string ⟨r.toArray⟩ ∧ Hid (X = contL lst (listR ptR m r) ∧ r.length ≤ 1000000) ∧ Hid (wr.ownsRow (w.heap.size + 2) 49 33 (.slice A lst.length c) lst.length (cellsOf (encKI .u32) lst)) ∧ Hid (PtS w ({ a with T := { a.T with ins := lst }, Ai := A, ci := c } : TxA) wr)) (fun _ i _ => n - (intOf i).toNat)
    case atStart =>
      refine ⟨[], r, n, none, 0, by simp, rfl, rfl, Lib.hid ⟨?_, hr⟩, Lib.hid (World.ownsRow_nil _ _ _ _), Lib.hid ?_⟩
      · rw [HX.out]; cases X <;> rfl
      · rw [HA.out]; exact ST0.out
    case round =>
      clear ST0 HX hr
      obtain ⟨lst, r, m, A, c, hlm, rfl, rfl, hx, OV, ST⟩ := hrel
      obtain ⟨j, hj⟩ : ∃ j, lst.length = j := ⟨_, rfl⟩
      have HJ := Lib.hid hj
      cases m with
      | zero =>
        have hjn : j = n := by omega
        rw [hj]
        clear hlm hj
        subst hjn
        obtain ⟨cz, hz, kz⟩ := ST.out.k2; have KZ := Lib.hid kz; have HZ := Lib.hid hz; have KA := Lib.hid ST.out.k3; clear kz hz
        go_wp2_with (first
          | ((with_reducible refine at_load 3 ?_); refine tyTx.wpList_load rfl (.tmp 3) rfl w.heap.size 0 rfl ({ a with T := { a.T with ins := lst }, Ai := A, ci := c } : TxA) (by simpa using RowC.of_blk KA.out) ?_)
          | ((with_reducible refine at_store 6 113 ?_); refine tyTx.wpList_store rfl (.tmp 6) (.tmp 113) rfl rfl (w.heap.size + 1) ({ a with T := { a.T with ins := lst }, Ai := A, ci := c } : TxA) rfl rfl 44 cz KZ.out HZ.out ?_; intro wz oz bz))
        refine bodyPost_ret (results_cell_tmp2 rfl _ _ (w.heap.size + 1) 44 _ (0, 0) _ rfl bz Try.underlying44 rfl (by rw [tyTx.arr]; kernel_rfl)) rfl ?_
        rw [HY.out, hx.out.1]
        exact ⟨ST.out.below.trans (oz.below (by simp)), ({ a with T := { a.T with ins := lst }, Ai := A, ci := c } : TxA), by simp, rfl, TO.setIns (HI.out.to.from (ST.out.below.trans (oz.below (by simp)))) lst A c (xown_only OV.out oz KZ.out (by decide)), fun q => absurd q (by omega), fun _ => HI.out.outs (by omega), fun _ => HI.out.anc (by omega)⟩
      | succ m =>
        have hlt : j < n := by omega
        rw [hj]
        clear hj
        have hc := rKey_r r hx.out.2
        cases hq : keyR r with
        | error er =>
          have HC := Lib.hid (fun W => hq ▸ hc W)
          have he0 : er ≠ 0 := by rcases errs_key r er hq with h | h | h <;> omega
          have hd : (er == 0) = false := beq_eq_false_iff_ne.mpr he0
          have HE := Lib.hid (show Y = .error er by rw [HY.out, hx.out.1, listR_err (show ptR r = .error er by simp only [ptR, thenR, hq])]; rfl)
          clear hc hq hlm he0
          go_wp2_with fail
          refine (HC.out _).mono ?_
          rintro e w1 ⟨b1, rfl⟩
          have ST' := Lib.hid (ST.out.call b1)
          clear b1 HC OV
          clear ST; have ST := ST'; clear ST'
          go_wp2_with (first
            | ((with_reducible refine at_store 16 86 ?_); refine tyKc.wpList_store rfl (.tmp 16) (.tmp 86) rfl rfl w1.heap.size zeroKey rfl rfl 24 _ (Blk.new w1 _ _) rfl ?_; intro w2 o2 b2
               have ST' := Lib.hid (ST.out.call (((Below.refl w1.heap.size w1).alloc (Nat.le_refl _) _).trans (o2.below (by simp))))
               clear b2 o2
               clear ST; have ST := ST'; clear ST'
               obtain ⟨cz, hz, kz⟩ := ST.out.k2; have KZ := Lib.hid kz; have HZ := Lib.hid hz; have KA := Lib.hid ST.out.k3; clear kz hz)
            | ((with_reducible refine at_load 3 ?_); refine tyTx.wpList_load rfl (.tmp 3) rfl w.heap.size 0 rfl ({ a with T := { a.T with ins := lst }, Ai := A, ci := c } : TxA) (by simpa using RowC.of_blk KA.out) ?_)
            | ((with_reducible refine at_store 6 91 ?_); refine tyTx.wpList_store rfl (.tmp 6) (.tmp 91) rfl rfl (w.heap.size + 1) ({ a with T := { a.T with ins := lst }, Ai := A, ci := c } : TxA) rfl rfl 44 cz KZ.out HZ.out ?_; intro wz oz bz))
          refine bodyPost_ret (results_cell_tmp2 rfl _ _ (w.heap.size + 1) 44 _ (0, 0) _ rfl bz Try.underlying44 rfl (by rw [tyTx.arr]; kernel_rfl)) rfl ?_
          rw [HE.out]
          exact ⟨ST.out.below.trans (oz.below (by simp)), ({ a with T := { a.T with ins := lst }, Ai := A, ci := c } : TxA), [], rfl⟩
        | ok y =>
          obtain ⟨k, r1⟩ := y
          have hr1 : r1.length ≤ 1000000 := rest_len good_key hq hx.out.2
          have hc2 := rGet_r r1 hr1 4 (by omega) (by omega)
          have HC := Lib.hid (fun W => hq ▸ hc W)
          cases hq2 : getR 4 r1 with
          | error er =>
            have HC2 := Lib.hid (fun W => hq2 ▸ hc2 W)
            have he0 : er = 30 := getR_err hq2
            subst he0
            have HE := Lib.hid (show Y = .error 30 by rw [HY.out, hx.out.1, listR_err (show ptR r = .error 30 by simp only [ptR, thenR, hq, u32R, mapR, hq2])]; rfl)
            clear hc hc2 hq hq2 hlm
            go_wp2_with fail
            refine (HC.out _).mono ?_
            rintro e w1 ⟨b1, rfl⟩
            have ST' := Lib.hid (ST.out.call b1)
            clear b1 HC OV
            clear ST; have ST := ST'; clear ST'
            go_wp2_with ((with_reducible refine at_store 16 86 ?_); refine tyKc.wpList_store rfl (.tmp 16) (.tmp 86) rfl rfl w1.heap.size k rfl rfl 24 _ (Blk.new w1 _ _) rfl ?_; intro w2 o2 b2
                         have ST' := Lib.hid (ST.out.call (((Below.refl w1.heap.size w1).alloc (Nat.le_refl _) _).trans (o2.below (by simp))))
                         clear b2 o2
                         clear ST; have ST := ST'; clear ST')
            refine (HC2.out _).mono ?_
            rintro e w3 ⟨b3, rfl⟩
            have ST' := Lib.hid (ST.out.call b3)
            clear b3 HC2
            clear ST; have ST := ST'; clear ST'
            obtain ⟨cz, hz, kz⟩ := ST.out.k2; have KZ := Lib.hid kz; have HZ := Lib.hid hz; have KA := Lib.hid ST.out.k3; clear kz hz
            go_wp2_with (first
              | ((with_reducible refine at_load 3 ?_); refine tyTx.wpList_load rfl (.tmp 3) rfl w.heap.size 0 rfl ({ a with T := { a.T with ins := lst }, Ai := A, ci := c } : TxA) (by simpa using RowC.of_blk KA.out) ?_)
              | ((with_reducible refine at_store 6 101 ?_); refine tyTx.wpList_store rfl (.tmp 6) (.tmp 101) rfl rfl (w.heap.size + 1) ({ a with T := { a.T with ins := lst }, Ai := A, ci := c } : TxA) rfl rfl 44 cz KZ.out HZ.out ?_; intro wz oz bz))
            refine bodyPost_ret (results_cell_tmp2 rfl _ _ (w.heap.size + 1) 44 _ (0, 0) _ rfl bz Try.underlying44 rfl (by rw [tyTx.arr]; kernel_rfl)) rfl ?_
            rw [HE.out]
            exact ⟨ST.out.below.trans (oz.below (by simp)), ({ a with T := { a.T with ins := lst }, Ai := A, ci := c } : TxA), [], rfl⟩
          | ok y2 =>
            obtain ⟨x, r2⟩ := y2
            have hx4 : x < 4294967296 := ok_of (good_get 4) hq2
            have HC2 := Lib.hid (fun W => hq2 ▸ hc2 W)
            have HV := Lib.hid (show Value.int .u32 ((x : Int) % 4294967296) = .int .u32 (toU32 x).1 from congrArg _ (by show (x : Int) % 4294967296 = ((x % 4294967296 : Nat) : Int); omega))
            have HE := Lib.hid (show X = contL (lst ++ [(k, toU32 x)]) (listR ptR m r2) by rw [hx.out.1, listR_ok (show ptR r = .ok ((k, toU32 x), r2) by simp only [ptR, thenR, hq, u32R, mapR, hq2])])
            have HS := Lib.hid (rest_len (good_get 4) hq2 hr1)
            have HLM := Lib.hid hlm
            clear hc hc2 hq hq2 hlm hx hx4 hr1
            go_wp2_with fail
            refine (HC.out _).mono ?_
            rintro e w1 ⟨b1, rfl⟩
            have ST' := Lib.hid (ST.out.call b1)
            have OV' := Lib.hid (xown_from OV.out b1)
            clear b1 HC OV
            clear ST; have ST := ST'; clear ST'
            go_wp2_with ((with_reducible refine at_store 16 86 ?_); refine tyKc.wpList_store rfl (.tmp 16) (.tmp 86) rfl rfl w1.heap.size k rfl rfl 24 _ (Blk.new w1 _ _) rfl ?_; intro w2 o2 b2
                         have KK := Lib.hid b2
                         have B2 := Lib.hid (((Below.refl w1.heap.size w1).alloc (Nat.le_refl _) _).trans (o2.below (by simp)))
                         have ST' := Lib.hid (ST.out.call B2.out)
                         have OW := Lib.hid (xown_from OV'.out B2.out)
                         clear b2 o2 B2 OV'
                         clear ST; have ST := ST'; clear ST')
            refine (HC2.out _).mono ?_
            rintro e w3 ⟨b3, rfl⟩
            have ST' := Lib.hid (ST.out.call b3)
            have OV := Lib.hid (xown_from OW.out b3)
            have KX := Lib.hid (below_blk b3 KK.out KK.out.lt)
            clear b3 HC2 OW KK
            clear ST; have ST := ST'; clear ST'
            have cell := TxA.c1 (RowC.of_blk ST.out.k3)
            go_wp2_with (first
              | ((with_reducible refine at_load 16 ?_); refine tyKy.wpList_load rfl (.tmp 16) rfl w1.heap.size 0 rfl k (by simpa [encK] using RowC.of_blk KX.out) ?_)
              | ((with_reducible refine at_build 108 ?_); refine wpList_built rfl 49 #[(0, .tmp 105), (1, .tmp 107)] rfl (encKI .u32 (k, toU32 x)).toArray ((congrArg (Try.prog.built 49) (show _ = [(0, Value.agg (encK k).toArray), (1, Value.int .u32 (toU32 x).1)] by kernel_rfl)).trans (built_KI _ rfl k (toU32 x))) ?_)
              | ((with_reducible refine at_buildSlice 109 ?_); refine tyPt.wpList_build rfl zsPt 1 _ rfl [(k, toU32 x)] rfl (by omega) (by omega) (by kernel_rfl) ?_)
              | ((with_reducible refine at_appendg 110 104 109 ?_); refine tyPt.wpList_append1 rfl zcPt 36 zbPt (by omega) (.tmp 104) (.tmp 109) rfl (w.heap.size + 2) _ lst (by rw [HJ.out]; rfl) (OV.out.alloc _) _ 1 (k, toU32 x) rfl (Blk.new _ _ _) (by rw [HJ.out]; omega) (by have := ST.out.size; simp; omega) ?_; intro v4 w4 p4 g4
                 obtain ⟨L2, hL2⟩ : ∃ L2, lst ++ [(k, toU32 x)] = L2 := ⟨_, rfl⟩
                 rw [hL2] at p4
                 have HL2 := Lib.hid hL2
                 clear hL2
                 obtain ⟨A4, c4, rfl⟩ := own_shape p4
                 have OW := Lib.hid p4
                 have ST' := Lib.hid (ST.out.step (((Below.refl _ _).alloc ST.out.size _).trans (xown_grown (OV.out.alloc _) g4 (by have := ST.out.size; simp; omega))))
                 clear p4 g4 OV KX cell
                 clear ST; have ST := ST'; clear ST')
              | ((with_reducible refine at_store 111 110 ?_); refine wpList_store_cell rfl 40 (.tmp 111) (.tmp 110) rfl rfl w.heap.size 1 (.slice A4 L2.length c4) rfl rfl rfl 44 _ ST.out.k3 (by rw [tyTx.arr]; omega) (by kernel_rfl) ?_; intro w5 ox bx; rw [TxA.set_ins'] at bx
                 have OV := Lib.hid (xown_only OW.out ox ST.out.k3 (by decide))
                 have ST' := Lib.hid (ST.out.set (a' := ({ a with T := { a.T with ins := L2 }, Ai := A4, ci := c4 } : TxA)) ox bx)
                 clear ox bx OW
                 clear ST; have ST := ST'; clear ST'))
            have e1 : L2.length = j + 1 := by rw [← HL2.out, List.length_append, HJ.out]; rfl
            go_roundw
            case rel => exact ⟨L2, r2, m, A4, c4, by rw [e1]; have h1 := HLM.out; have h2 := HJ.out; omega, by rw [e1]; go_num, rfl, Lib.hid ⟨by rw [← HL2.out]; exact HE.out, HS.out⟩, OV, ST⟩
            case measure => simp [intOf]; omega
set_option maxRecDepth 20000 in
set_option maxHeartbeats 4000000 in
theorem part2_r (a : TxA) (l : List UInt8) (hs : l.length ≤ 1000000) (w : World) (h : PtI 2 w a) :
    Calls Try.prog 56 #[.agg a.cells.toArray, .int .i64 2, .string ⟨l.toArray⟩] w (EndP 2 w (partR 2 a.T l)) := by
  have hC := rMany_r l hs
  have ST := Lib.hid (PtS.two (w0 := w) (a := a))
  have HI := Lib.hid h
  clear h
  cases hq : numR l with
  | error er =>
    have he0 : er ≠ 0 := by rcases errs_num l er hq with h | h | h <;> omega
    have hd : (er == 0) = false := beq_eq_false_iff_ne.mpr he0
    rw [show partR 2 a.T l = .error er by simp only [partR, manyR, mapR, thenR, hq]]
    have HC := Lib.hid (fun W => hq ▸ hC W)
    clear hq hC he0
    go_enter Try.func56, Try.ntmps56
    go_wp2_with fail
    refine (HC.out _).mono ?_
    rintro e w1 ⟨b1, rfl⟩
    have ST' := Lib.hid ((ST.out _ _ (by kernel_rfl) rfl).call b1)
    clear b1 HC
    clear ST; have ST := ST'; clear ST'
    obtain ⟨cz, hz, kz⟩ := ST.out.k2; have KZ := Lib.hid kz; have HZ := Lib.hid hz; have KA := Lib.hid ST.out.k3; clear kz hz
    go_wp2_with (first
      | ((with_reducible refine at_load 3 ?_); refine tyTx.wpList_load rfl (.tmp 3) rfl w.heap.size 0 rfl a (by simpa using RowC.of_blk KA.out) ?_)
      | ((with_reducible refine at_store 6 73 ?_); refine tyTx.wpList_store rfl (.tmp 6) (.tmp 73) rfl rfl (w.heap.size + 1) a rfl rfl 44 cz KZ.out HZ.out ?_; intro wz oz bz))
    exact bodyPost_ret (results_cell_tmp2 rfl _ _ (w.heap.size + 1) 44 _ (0, 0) _ rfl bz Try.underlying44 rfl (by rw [tyTx.arr]; kernel_rfl)) rfl ⟨ST.out.below.trans (oz.below (by simp)), a, [], rfl⟩
  | ok x =>
    obtain ⟨n, r⟩ := x
    have hn : n ≤ 40 := ok_of good_num hq
    have hr : r.length ≤ 1000000 := rest_len good_num hq hs
    have HC := Lib.hid (fun W => hq ▸ hC W)
    clear hC
    obtain ⟨X, hX⟩ : ∃ X, listR outR n r = X := ⟨_, rfl⟩
    have hY : partR 2 a.T l = ontoL (fun ls => { a.T with outs := ls }) X := by
      rw [← hX]
      simp only [partR, manyR, mapR, thenR, hq]
      cases listR outR n r <;> rfl
    have HX := Lib.hid hX
    obtain ⟨Y, hYY⟩ : ∃ Y, partR 2 a.T l = Y := ⟨_, rfl⟩
    rw [hYY] at hY ⊢
    have HY := Lib.hid hY
    have HA := Lib.hid (show ({ a with T := { a.T with outs := [] }, Ao := none, co := 0 } : TxA) = a by
      obtain ⟨h1, h2, h3⟩ := HI.out.outs (by omega)
      obtain ⟨⟨e, i, o, k, nl, nt, b⟩, Ai, ci, Ao, co, An, cn, At, ct⟩ := a
      simp only at h1 h2 h3
      subst h1 h2 h3
      rfl)
    clear hq hX hY hYY
    go_enter Try.func56, Try.ntmps56
    go_wp2_with fail
    refine (HC.out _).mono ?_
    rintro e w0 ⟨b1, rfl⟩
    have ST0 := Lib.hid ((ST.out _ _ (by kernel_rfl) rfl).call b1)
    clear b1 HC ST
    go_wp2_with fail
    go_loopw [13, 22] (fun s i wr => ∃ (lst : List (IntV .i64 × K32)) (r : List UInt8) (m : Nat) (A : Option Addr) (c : Nat), lst.length + m = n ∧ i = .int .i64 (lst.length : Nat) ∧ s = .string ⟨r.toArray⟩ ∧ Hid (X = contL lst (listR outR m r) ∧ r.length ≤ 1000000) ∧ Hid (wr.ownsRow (w.heap.size + 2) 92 33 (.slice A lst.length c) lst.length (cellsOf (encIK .i64) lst)) ∧ Hid (PtS w ({ a with T := { a.T with outs := lst }, Ao := A, co := c } : TxA) wr)) (fun _ i _ => n - (intOf i).toNat)
    case atStart =>
      refine ⟨[], r, n, none, 0, by simp, rfl, rfl, Lib.hid ⟨?_, hr⟩, Lib.hid (World.ownsRow_nil _ _ _ _), Lib.hid ?_⟩
      · rw [HX.out]; cases X <;> rfl
      · rw [HA.out]; exact ST0.out
    case round =>
      clear ST0 HX hr
      obtain ⟨lst, r, m, A, c, hlm, rfl, rfl, hx, OV, ST⟩ := hrel
      obtain ⟨j, hj⟩ : ∃ j, lst.length = j := ⟨_, rfl⟩
      have HJ := Lib.hid hj
      cases m with
      | zero =>
        have hjn : j = n := by omega
        rw [hj]
        clear hlm hj
        subst hjn
        obtain ⟨cz, hz, kz⟩ := ST.out.k2; have KZ := Lib.hid kz; have HZ := Lib.hid hz; have KA := Lib.hid ST.out.k3; clear kz hz
        go_wp2_with (first
          | ((with_reducible refine at_load 3 ?_); refine tyTx.wpList_load rfl (.tmp 3) rfl w.heap.size 0 rfl ({ a with T := { a.T with outs := lst }, Ao := A, co := c } : TxA) (by simpa using RowC.of_blk KA.out) ?_)
          | ((with_reducible refine at_store 6 152 ?_); refine tyTx.wpList_store rfl (.tmp 6) (.tmp 152) rfl rfl (w.heap.size + 1) ({ a with T := { a.T with outs := lst }, Ao := A, co := c } : TxA) rfl rfl 44 cz KZ.out HZ.out ?_; intro wz oz bz))
        refine bodyPost_ret (results_cell_tmp2 rfl _ _ (w.heap.size + 1) 44 _ (0, 0) _ rfl bz Try.underlying44 rfl (by rw [tyTx.arr]; kernel_rfl)) rfl ?_
        rw [HY.out, hx.out.1]
        exact ⟨ST.out.below.trans (oz.below (by simp)), ({ a with T := { a.T with outs := lst }, Ao := A, co := c } : TxA), by simp, rfl, TO.setOuts (HI.out.to.from (ST.out.below.trans (oz.below (by simp)))) lst A c (xown_only OV.out oz KZ.out (by decide)), fun q => absurd q (by omega), fun q => absurd q (by omega), fun _ => HI.out.anc (by omega)⟩
      | succ m =>
        have hlt : j < n := by omega
        rw [hj]
        clear hj
        have hc := rGet_r r hx.out.2 8 (by omega) (by omega)
        cases hq : getR 8 r with
        | error er =>
          have HC := Lib.hid (fun W => hq ▸ hc W)
          have he0 : er = 30 := getR_err hq
          subst he0
          have HE := Lib.hid (show Y = .error 30 by rw [HY.out, hx.out.1, listR_err (show outR r = .error 30 by simp only [outR, thenR, i64R, mapR, hq])]; rfl)
          clear hc hq hlm
          go_wp2_with fail
          refine (HC.out _).mono ?_
          rintro e w1 ⟨b1, rfl⟩
          have ST' := Lib.hid (ST.out.call b1)
          clear b1 HC OV
          clear ST; have ST := ST'; clear ST'
          obtain ⟨cz, hz, kz⟩ := ST.out.k2; have KZ := Lib.hid kz; have HZ := Lib.hid hz; have KA := Lib.hid ST.out.k3; clear kz hz
          go_wp2_with (first
            | ((with_reducible refine at_load 3 ?_); refine tyTx.wpList_load rfl (.tmp 3) rfl w.heap.size 0 rfl ({ a with T := { a.T with outs := lst }, Ao := A, co := c } : TxA) (by simpa using RowC.of_blk KA.out) ?_)
            | ((with_reducible refine at_store 6 130 ?_); refine tyTx.wpList_store rfl (.tmp 6) (.tmp 130) rfl rfl (w.heap.size + 1) ({ a with T := { a.T with outs := lst }, Ao := A, co := c } : TxA) rfl rfl 44 cz KZ.out HZ.out ?_; intro wz oz bz))
          refine bodyPost_ret (results_cell_tmp2 rfl _ _ (w.heap.size + 1) 44 _ (0, 0) _ rfl bz Try.underlying44 rfl (by rw [tyTx.arr]; kernel_rfl)) rfl ?_
          rw [HE.out]
          exact ⟨ST.out.below.trans (oz.below (by simp)), ({ a with T := { a.T with outs := lst }, Ao := A, co := c } : TxA), [], rfl⟩
        | ok y =>
          obtain ⟨x, r1⟩ := y
          have hr1 : r1.length ≤ 1000000 := rest_len (good_get 8) hq hx.out.2
          have hx8 : x < 18446744073709551616 := ok_of (good_get 8) hq
          have hc2 := rKey_r r1 hr1
          have HC := Lib.hid (fun W => hq ▸ hc W)
          cases hq2 : keyR r1 with
          | error er =>
            have HC2 := Lib.hid (fun W => hq2 ▸ hc2 W)
            have he0 : er ≠ 0 := by rcases errs_key r1 er hq2 with h | h | h <;> omega
            have hd : (er == 0) = false := beq_eq_false_iff_ne.mpr he0
            have HE := Lib.hid (show Y = .error er by rw [HY.out, hx.out.1, listR_err (show outR r = .error er by simp only [outR, thenR, hq, i64R, mapR, hq2])]; rfl)
            clear hc hc2 hq hq2 hlm he0 hx8
            go_wp2_with fail
            refine (HC.out _).mono ?_
            rintro e w1 ⟨b1, rfl⟩
            have ST' := Lib.hid (ST.out.call b1)
            clear b1 HC OV
            clear ST; have ST := ST'; clear ST'
            go_wp2_with fail
            refine (HC2.out _).mono ?_
            rintro e w3 ⟨b3, rfl⟩
            have ST' := Lib.hid (ST.out.call b3)
            clear b3 HC2
            clear ST; have ST := ST'; clear ST'
            go_wp2_with (first
              | ((with_reducible refine at_store 26 135 ?_); refine tyKc.wpList_store rfl (.tmp 26) (.tmp 135) rfl rfl w3.heap.size zeroKey rfl rfl 24 _ (Blk.new w3 _ _) rfl ?_; intro w2 o2 b2
                 have ST' := Lib.hid (ST.out.call (((Below.refl w3.heap.size w3).alloc (Nat.le_refl _) _).trans (o2.below (by simp))))
                 clear b2 o2
                 clear ST; have ST := ST'; clear ST'
                 obtain ⟨cz, hz, kz⟩ := ST.out.k2; have KZ := Lib.hid kz; have HZ := Lib.hid hz; have KA := Lib.hid ST.out.k3; clear kz hz)
              | ((with_reducible refine at_load 3 ?_); refine tyTx.wpList_load rfl (.tmp 3) rfl w.heap.size 0 rfl ({ a with T := { a.T with outs := lst }, Ao := A, co := c } : TxA) (by simpa using RowC.of_blk KA.out) ?_)
              | ((with_reducible refine at_store 6 140 ?_); refine tyTx.wpList_store rfl (.tmp 6) (.tmp 140) rfl rfl (w.heap.size + 1) ({ a with T := { a.T with outs := lst }, Ao := A, co := c } : TxA) rfl rfl 44 cz KZ.out HZ.out ?_; intro wz oz bz))
            refine bodyPost_ret (results_cell_tmp2 rfl _ _ (w.heap.size + 1) 44 _ (0, 0) _ rfl bz Try.underlying44 rfl (by rw [tyTx.arr]; kernel_rfl)) rfl ?_
            rw [HE.out]
            exact ⟨ST.out.below.trans (oz.below (by simp)), ({ a with T := { a.T with outs := lst }, Ao := A, co := c } : TxA), [], rfl⟩
          | ok y2 =>
            obtain ⟨k, r2⟩ := y2
            have HC2 := Lib.hid (fun W => hq2 ▸ hc2 W)
            have HV := Lib.hid (show Value.int .i64 (wrap64 (x : Int)) = .int .i64 (toI64 x).1 from congrArg _ (by unfold wrap64 toI64; simp only; split <;> omega))
            have HE := Lib.hid (show X = contL (lst ++ [(toI64 x, k)]) (listR outR m r2) by rw [hx.out.1, listR_ok (show outR r = .ok ((toI64 x, k), r2) by simp only [outR, thenR, hq, i64R, mapR, hq2])])
            have HS := Lib.hid (rest_len good_key hq2 hr1)
            have HLM := Lib.hid hlm
            clear hc hc2 hq hq2 hlm hx hx8 hr1
            go_wp2_with fail
            refine (HC.out _).mono ?_
            rintro e w1 ⟨b1, rfl⟩
            have ST' := Lib.hid (ST.out.call b1)
            have OV' := Lib.hid (xown_from OV.out b1)
            clear b1 HC OV
            clear ST; have ST := ST'; clear ST'
            go_wp2_with fail
            refine (HC2.out _).mono ?_
            rintro e w3 ⟨b3, rfl⟩
            have ST' := Lib.hid (ST.out.call b3)
            have OW := Lib.hid (xown_from OV'.out b3)
            clear b3 HC2 OV'
            clear ST; have ST := ST'; clear ST'
            go_wp2_with (first
              | ((with_reducible refine at_store 26 135 ?_); refine tyKc.wpList_store rfl (.tmp 26) (.tmp 135) rfl rfl w3.heap.size k rfl rfl 24 _ (Blk.new w3 _ _) rfl ?_; intro w2 o2 b2
                 have KX := Lib.hid b2
                 have B2 := Lib.hid (((Below.refl w3.heap.size w3).alloc (Nat.le_refl _) _).trans (o2.below (by simp)))
                 have ST' := Lib.hid (ST.out.call B2.out)
                 have OV := Lib.hid (xown_from OW.out B2.out)
                 clear b2 o2 B2 OW
                 clear ST; have ST := ST'; clear ST'
                 have cell := TxA.c2 (RowC.of_blk ST.out.k3))
              | ((with_reducible refine at_load 26 ?_); refine tyKy.wpList_load rfl (.tmp 26) rfl w3.heap.size 0 rfl k (by simpa [encK] using RowC.of_blk KX.out) ?_)
              | ((with_reducible refine at_build 147 ?_); refine wpList_built rfl 92 #[(0, .tmp 145), (1, .tmp 146)] rfl (encIK .i64 (toI64 x, k)).toArray ((congrArg (Try.prog.built 92) (show _ = [(0, Value.int .i64 (toI64 x).1), (1, Value.agg (encK k).toArray)] by rw [← HV.out]; kernel_rfl)).trans (built_IK _ rfl k (toI64 x))) ?_)
              | ((with_reducible refine at_buildSlice 148 ?_); refine tyOut.wpList_build rfl zsOut 1 _ rfl [(toI64 x, k)] rfl (by omega) (by omega) (by kernel_rfl) ?_)
              | ((with_reducible refine at_appendg 149 143 148 ?_); refine tyOut.wpList_append1 rfl zcOut 40 zbOut (by omega) (.tmp 143) (.tmp 148) rfl (w.heap.size + 2) _ lst (by rw [HJ.out]; rfl) (OV.out.alloc _) _ 1 (toI64 x, k) rfl (Blk.new _ _ _) (by rw [HJ.out]; omega) (by have := ST.out.size; simp; omega) ?_; intro v4 w4 p4 g4
                 obtain ⟨L2, hL2⟩ : ∃ L2, lst ++ [(toI64 x, k)] = L2 := ⟨_, rfl⟩
                 rw [hL2] at p4
                 have HL2 := Lib.hid hL2
                 clear hL2
                 obtain ⟨A4, c4, rfl⟩ := own_shape p4
                 have OW := Lib.hid p4
                 have ST' := Lib.hid (ST.out.step (((Below.refl _ _).alloc ST.out.size _).trans (xown_grown (OV.out.alloc _) g4 (by have := ST.out.size; simp; omega))))
                 clear p4 g4 OV KX cell
                 clear ST; have ST := ST'; clear ST')
              | ((with_reducible refine at_store 150 149 ?_); refine wpList_store_cell rfl 41 (.tmp 150) (.tmp 149) rfl rfl w.heap.size 2 (.slice A4 L2.length c4) rfl rfl rfl 44 _ ST.out.k3 (by rw [tyTx.arr]; omega) (by kernel_rfl) ?_; intro w5 ox bx; rw [TxA.set_outs] at bx
                 have OV := Lib.hid (xown_only OW.out ox ST.out.k3 (by decide))
                 have ST' := Lib.hid (ST.out.set (a' := ({ a with T := { a.T with outs := L2 }, Ao := A4, co := c4 } : TxA)) ox bx)
                 clear ox bx OW
                 clear ST; have ST := ST'; clear ST'))
            have e1 : L2.length = j + 1 := by rw [← HL2.out, List.length_append, HJ.out]; rfl
            go_roundw
            case rel => exact ⟨L2, r2, m, A4, c4, by rw [e1]; have h1 := HLM.out; have h2 := HJ.out; omega, by rw [e1]; go_num, rfl, Lib.hid ⟨by rw [← HL2.out]; exact HE.out, HS.out⟩, OV, ST⟩
            case measure => simp [intOf]; omega

end Go.Proofs.Ythpnmmilioonhaa
