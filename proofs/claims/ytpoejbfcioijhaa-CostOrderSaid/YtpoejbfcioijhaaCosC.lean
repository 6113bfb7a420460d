/- Costs: the document's Cost and Weight; what is assumed of the project's; the law's heavy and shown. -/
import Derived.Test.YtpoejbfcioijhaaCosB
import Derived.Test.YtpoejbfcioijhaaFeeA
import Derived.Test.YtpoejbfcioijhaaTxAllC
namespace Go.Proofs.Ytpoejbfcioijhaa
open Go.RowKit
def cosSize (T : TxV) : Nat := (encF T).1.length
def costF (T : TxV) : Int := max (cosSize T : Int) 4000
def cosW (T : TxV) (f : Int) : Int := if paysF T f then costF T else costF T + 16000
theorem rSize_w (a : TxA) (w : World) (h : a.In w w.heap.size) :
    Calls Try.prog 18 #[.agg a.cells.toArray] w fun e w' => e = .returned (.int .i64 (cosSize a.T : Nat)) ∧ Below w.heap.size w w' := by
  have HI := Lib.hid (show a.In (w.alloc (.cells a.cells.toArray 29)) _ from TxA.In.on h ((Below.refl _ _).alloc (Nat.le_refl _) _) (Nat.le_refl _))
  have HB := Lib.hid (show RowC (w.alloc (.cells a.cells.toArray 29)) w.heap.size 0 a.cells from RowC.of_blk (Blk.new _ _ _))
  clear h
  unfold cosSize
  go_enter Try.func18, Try.ntmps18
  go_wp2_with ((with_reducible refine at_load 1 ?_); refine tyTx.wpList_load rfl (.tmp 1) rfl w.heap.size 0 rfl a HB.out ?_)
  refine (refEncA_any a _ HI.out).mono ?_
  rintro e w1 ⟨rfl, b1⟩
  unfold encV
  have B1 := Lib.hid (((Below.refl w.heap.size w).alloc (Nat.le_refl _) (.cells a.cells.toArray 29)).trans (b1.mono (by simp)))
  clear b1
  go_wp2_with fail
  go_ret
  exact ⟨by simp, B1.out⟩
theorem rCost_w (a : TxA) (w : World) (h : a.In w w.heap.size) :
    Calls Try.prog 15 #[.agg a.cells.toArray] w fun e w' => e = .returned (.int .i64 (costF a.T)) ∧ Below w.heap.size w w' := by
  have HI := Lib.hid (show a.In (w.alloc (.cells a.cells.toArray 29)) _ from TxA.In.on h ((Below.refl _ _).alloc (Nat.le_refl _) _) (Nat.le_refl _))
  have HB := Lib.hid (show RowC (w.alloc (.cells a.cells.toArray 29)) w.heap.size 0 a.cells from RowC.of_blk (Blk.new _ _ _))
  have SZ := Lib.hid (fun W hW => rSize_w a W hW)
  obtain ⟨n, hn⟩ : ∃ n, cosSize a.T = n := ⟨_, rfl⟩
  have HC := Lib.hid (show costF a.T = max (n : Int) 4000 by unfold costF; rw [hn])
  rw [hn] at SZ
  clear h hn
  rcases Nat.lt_or_ge n 4000 with h4 | h4
  · have hm : max (n : Int) 4000 = 4000 := by omega
    rw [hm] at HC
    have hd1 : decide ((n : Int) < 4000) = true := decide_eq_true (by omega)
    have hd2 : decide ((4000 : Int) < (n : Int)) = false := decide_eq_false (by omega)
    go_enter Try.func15, Try.ntmps15
    go_wp2_with ((with_reducible refine at_load 1 ?_); refine tyTx.wpList_load rfl (.tmp 1) rfl w.heap.size 0 rfl a HB.out ?_)
    refine (SZ.out _ HI.out).mono ?_
    rintro e w1 ⟨rfl, b1⟩
    have B1 := Lib.hid (((Below.refl w.heap.size w).alloc (Nat.le_refl _) (.cells a.cells.toArray 29)).trans (b1.mono (by simp)))
    clear b1
    go_wp2_with fail
    go_ret
    exact ⟨by rw [HC.out]; rfl, B1.out⟩
  · have hm : max (n : Int) 4000 = n := by omega
    rw [hm] at HC
    have hd1 : decide ((n : Int) < 4000) = false := decide_eq_false (by omega)
    have hd2 : ¬ (n : Int) < 4000 := by omega
    go_enter Try.func15, Try.ntmps15
    go_wp2_with ((with_reducible refine at_load 1 ?_); refine tyTx.wpList_load rfl (.tmp 1) rfl w.heap.size 0 rfl a HB.out ?_)
    refine (SZ.out _ HI.out).mono ?_
    rintro e w1 ⟨rfl, b1⟩
    have B1 := Lib.hid (((Below.refl w.heap.size w).alloc (Nat.le_refl _) (.cells a.cells.toArray 29)).trans (b1.mono (by simp)))
    clear b1
    go_wp2_with fail
    go_ret
    exact ⟨by rw [HC.out]; rfl, B1.out⟩
theorem costF_le (T : TxV) : 4000 ≤ costF T ∧ costF T ≤ 6000 := by
  have h : cosSize T ≤ 6000 := by
    unfold cosSize
    rcases encF_cases T with ⟨ok, e⟩ | e | e
    · rw [e]
      have h1 := txB_len T ok
      obtain ⟨a1, a2, a3, a4, _⟩ := ok
      have h2 : (if 0 < T.nulls.length then 32 else 0) ≤ 32 := by split <;> omega
      show (txB T).length ≤ 6000
      omega
    · rw [e]; exact Nat.zero_le _
    · rw [e]; exact Nat.zero_le _
  unfold costF
  omega
theorem rWeight_w (a : TxA) (f : Int) (w : World) (h : a.In w w.heap.size) (hf : Few a.T) :
    Calls Try.prog 17 #[.agg a.cells.toArray, .int .i64 f] w fun e w' => e = .returned (.int .i64 (cosW a.T f)) ∧ Below w.heap.size w w' := by
  have HH := Lib.hid (show Holds w [(w.heap.size, 29, a.cells.toArray)] (w.alloc (.cells a.cells.toArray 29)) from (Holds.nil w).box 29 a.cells.toArray)
  have IA := Lib.hid h
  have PA := Lib.hid (fun W => rPays_f a f W hf)
  have CO := Lib.hid (fun W hW => rCost_w a W hW)
  obtain ⟨n, hn⟩ : ∃ n, costF a.T = n := ⟨_, rfl⟩
  have hw : IntKind.i64.wrap (n + 16000) = n + 16000 := by have := costF_le a.T; rw [IntKind.wrap_i64]; omega
  rw [hn] at CO
  cases hp : paysF a.T f with
  | true =>
    have HR := Lib.hid (show cosW a.T f = n by unfold cosW; rw [if_pos hp, hn])
    rw [hp] at PA
    clear h hf hn hp
    go_enter Try.func17, Try.ntmps17
    go_wp2_with ((with_reducible refine at_load 2 ?_); refine tyTx.wpList_load rfl (.tmp 2) rfl w.heap.size 0 rfl a (RowC.of_blk (HH.out.at (x := (w.heap.size, 29, a.cells.toArray)) (by simp))) ?_)
    refine (PA.out _).mono ?_
    rintro e w1 ⟨rfl, b1⟩
    have H1 := Lib.hid (HH.out.call b1)
    clear b1 HH
    go_wp2_with ((with_reducible refine at_load 2 ?_); refine tyTx.wpList_load rfl (.tmp 2) rfl w.heap.size 0 rfl a (RowC.of_blk (H1.out.at (x := (w.heap.size, 29, a.cells.toArray)) (by simp))) ?_)
    refine (CO.out _ (IA.out.on H1.out.below (Nat.le_refl _))).mono ?_
    rintro e w2 ⟨rfl, b2⟩
    have H2 := Lib.hid (H1.out.call b2)
    clear b2 H1
    go_wp2_with fail
    go_ret
    exact ⟨by rw [HR.out]; rfl, H2.out.below⟩
  | false =>
    have HR := Lib.hid (show cosW a.T f = n + 16000 by unfold cosW; rw [hp, hn]; rfl)
    rw [hp] at PA
    clear h hf hn hp
    go_enter Try.func17, Try.ntmps17
    go_wp2_with ((with_reducible refine at_load 2 ?_); refine tyTx.wpList_load rfl (.tmp 2) rfl w.heap.size 0 rfl a (RowC.of_blk (HH.out.at (x := (w.heap.size, 29, a.cells.toArray)) (by simp))) ?_)
    refine (PA.out _).mono ?_
    rintro e w1 ⟨rfl, b1⟩
    have H1 := Lib.hid (HH.out.call b1)
    clear b1 HH
    go_wp2_with ((with_reducible refine at_load 2 ?_); refine tyTx.wpList_load rfl (.tmp 2) rfl w.heap.size 0 rfl a (RowC.of_blk (H1.out.at (x := (w.heap.size, 29, a.cells.toArray)) (by simp))) ?_)
    refine (CO.out _ (IA.out.on H1.out.below (Nat.le_refl _))).mono ?_
    rintro e w2 ⟨rfl, b2⟩
    have H2 := Lib.hid (H1.out.call b2)
    clear b2 H1
    go_wp2_with fail
    go_ret
    exact ⟨by rw [HR.out]; rfl, H2.out.below⟩
end Go.Proofs.Ytpoejbfcioijhaa
