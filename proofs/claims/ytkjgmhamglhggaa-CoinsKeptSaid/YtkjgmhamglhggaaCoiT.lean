/- What the project's coins answer, as assumptions that each law's walk takes; the law's 'shown' and 'rising'. -/
import Derived.Test.YtkjgmhamglhggaaCoiI
import Derived.Test.YtkjgmhamglhggaaCoiS
namespace Go.Proofs.Ytkjgmhamglhggaa
open Go.RowKit
/-- what Apply answers: two lists and a number -/
def applyR (l : List CoinV) (T : TxV) (id : K32) (h : IntV .u32) : (List CoinV × List CoinV) × Int := match applyF l T id h with
  | .error z => (([], []), z)
  | .ok y => (y, 0)
def undoR (l : List CoinV) (id : K32) (n : Nat) (sp : List CoinV) : List CoinV × Int := match undoF l id n sp with
  | .error z => ([], z)
  | .ok m => (m, 0)
theorem zeroCo_ok : ((Try.prog.info? 49).bind (·.zero)) = some (.agg (encC zeroCoin).toArray) := by kernel_rfl
abbrev RisesK (l : List CoinV) : Prop := RisesC CoinV.at_ ltP l
def LessOk : Prop := ∀ (a b : PtV) (w : World), Calls Try.prog 19 #[.agg (encKI .u32 a).toArray, .agg (encKI .u32 b).toArray] w fun e w' => e = .returned (.bool (ltP a b)) ∧ Below w.heap.size w w'
def FindOk : Prop := ∀ (A : Option Addr) (c : Nat) (l : List CoinV) (p : PtV) (w : World), l.length ≤ 300 → RowIn encC 68 w w.heap.size A c l → Calls Try.prog 16 #[.slice A l.length c, .agg (encKI .u32 p).toArray] w fun e w' => e = .returned (.tuple #[.agg (encC ((findK l p).getD zeroCoin)).toArray, .bool (findK l p).isSome]) ∧ Below w.heap.size w w'
def RipeOk : Prop := ∀ (c : CoinV) (h : IntV .u32) (w : World), Calls Try.prog 21 #[.agg (encC c).toArray, .int .u32 h.1] w fun e w' => e = .returned (.bool (ripeF c h)) ∧ Below w.heap.size w w'
def ApplyOk : Prop := ∀ (a : TxA) (id : K32) (h : IntV .u32) (A : Option Addr) (c : Nat) (l : List CoinV) (w : World), a.In w w.heap.size → RowIn encC 68 w w.heap.size A c l → l.length ≤ 300 → a.T.ins.length ≤ 300 → a.T.outs.length ≤ 300 → RisesK l →
  Calls Try.prog 11 #[.slice A l.length c, .agg a.cells.toArray, .agg (encK id).toArray, .int .u32 h.1] w fun e w' => ∃ A1 c1 A2 c2, e = .returned (.tuple #[.slice A1 (applyR l a.T id h).1.1.length c1, .slice A2 (applyR l a.T id h).1.2.length c2, .int .i64 (applyR l a.T id h).2]) ∧ RowIn encC 68 w' w'.heap.size A1 c1 (applyR l a.T id h).1.1 ∧ RowIn encC 68 w' w'.heap.size A2 c2 (applyR l a.T id h).1.2 ∧ Below w.heap.size w w'
def UndoOk : Prop := ∀ (a : TxA) (id : K32) (A As : Option Addr) (c cs : Nat) (l sp : List CoinV) (w : World), a.In w w.heap.size → RowIn encC 68 w w.heap.size A c l → RowIn encC 68 w w.heap.size As cs sp → l.length ≤ 300 → sp.length ≤ 300 → a.T.outs.length ≤ 300 →
  Calls Try.prog 14 #[.slice A l.length c, .agg a.cells.toArray, .agg (encK id).toArray, .slice As sp.length cs] w fun e w' => ∃ A1 c1, e = .returned (.tuple #[.slice A1 (undoR l id a.T.outs.length sp).1.length c1, .int .i64 (undoR l id a.T.outs.length sp).2]) ∧ RowIn encC 68 w' w'.heap.size A1 c1 (undoR l id a.T.outs.length sp).1 ∧ Below w.heap.size w w'
/-- the document's, in the same form -/
theorem rApplyR (a : TxA) (id : K32) (h : IntV .u32) (A : Option Addr) (c : Nat) (l : List CoinV) (w : World) (ha : a.In w w.heap.size) (hl : RowIn encC 68 w w.heap.size A c l) (hn : l.length ≤ 1000) (hi : a.T.ins.length ≤ 1000) (ho : a.T.outs.length ≤ 1000) :
    Calls Try.prog 12 #[.slice A l.length c, .agg a.cells.toArray, .agg (encK id).toArray, .int .u32 h.1] w fun e w' => ∃ A1 c1 A2 c2, e = .returned (.tuple #[.slice A1 (applyR l a.T id h).1.1.length c1, .slice A2 (applyR l a.T id h).1.2.length c2, .int .i64 (applyR l a.T id h).2]) ∧ RowIn encC 68 w' w'.heap.size A1 c1 (applyR l a.T id h).1.1 ∧ RowIn encC 68 w' w'.heap.size A2 c2 (applyR l a.T id h).1.2 ∧ Below w.heap.size w w' := by
  refine (rApply_r a id h A c l w ha hl hn hi ho).mono ?_
  rintro e w' ⟨b, hx⟩
  unfold applyR
  cases hF : applyF l a.T id h with
  | error z =>
    rw [hF] at hx
    exact ⟨none, 0, none, 0, hx, RowIn.nil (Nat.zero_le _), RowIn.nil (Nat.zero_le _), b⟩
  | ok y =>
    rw [hF] at hx
    obtain ⟨A1, c1, A2, c2, he, r1, r2⟩ := hx
    exact ⟨A1, c1, A2, c2, he, r1, r2, b⟩
theorem rUndoR (a : TxA) (id : K32) (A As : Option Addr) (c cs : Nat) (l sp : List CoinV) (w : World) (hl : RowIn encC 68 w w.heap.size A c l) (hs : RowIn encC 68 w w.heap.size As cs sp) (hn : l.length ≤ 1000) (hsn : sp.length ≤ 1000) (ho : a.T.outs.length ≤ 1000) :
    Calls Try.prog 15 #[.slice A l.length c, .agg a.cells.toArray, .agg (encK id).toArray, .slice As sp.length cs] w fun e w' => ∃ A1 c1, e = .returned (.tuple #[.slice A1 (undoR l id a.T.outs.length sp).1.length c1, .int .i64 (undoR l id a.T.outs.length sp).2]) ∧ RowIn encC 68 w' w'.heap.size A1 c1 (undoR l id a.T.outs.length sp).1 ∧ Below w.heap.size w w' := by
  refine (rUndo_r a id A As c cs l sp w hl hs hn hsn ho).mono ?_
  rintro e w' ⟨b, hx⟩
  unfold undoR
  cases hF : undoF l id a.T.outs.length sp with
  | error z =>
    rw [hF] at hx
    exact ⟨none, 0, hx, RowIn.nil (Nat.zero_le _), b⟩
  | ok y =>
    rw [hF] at hx
    obtain ⟨A1, c1, he, r1⟩ := hx
    exact ⟨A1, c1, he, r1, b⟩
/- the law's shown -/
def out5 : IntV .i64 × K32 := (⟨5, by decide⟩, zeroKey)
def ck1 : K32 := ⟨1 :: List.replicate 31 0, by simp⟩
def ck2 : K32 := ⟨2 :: List.replicate 31 0, by simp⟩
def pt1 : PtV := (ck1, ⟨0, by decide⟩)
def txO : TxV := { txZero with outs := [out5] }
def txI : TxV := { txZero with ins := [pt1] }
def coin5 : CoinV := ⟨pt1, out5, ⟨3, by decide⟩, false⟩
theorem apply_shown1 : applyR [] txO ck1 ⟨3, by decide⟩ = (([coin5], []), 0) := by kernel_rfl
theorem apply_shown2 : applyR [coin5] txI ck2 ⟨4, by decide⟩ = (([], [coin5]), 0) := by kernel_rfl
theorem zbOut : (Try.prog.info? 47).bind (·.zero) |>.isSome := by kernel_rfl
theorem zbPt : (Try.prog.info? 32).bind (·.zero) |>.isSome := by kernel_rfl
set_option maxRecDepth 20000 in
set_option maxHeartbeats 2000000 in
theorem coishown_any (HAP : ApplyOk) (w : World) :
    Calls Try.prog 10 #[] w fun e w' => e = .returned (.bool true) ∧ Below w.heap.size w w' := by
  unfold ApplyOk at HAP
  have HP := Lib.hid HAP
  have B0 := Lib.hid ((Below.refl w.heap.size w).alloc (Nat.le_refl _) (.cells (cellsOf (encIK .i64) [out5]).toArray 47))
  have RO := Lib.hid (show RowIn (encIK .i64) 33 (w.alloc (.cells (cellsOf (encIK .i64) [out5]).toArray 47)) (w.heap.size + 1) (some ⟨w.heap.size, 0, none⟩) 1 [out5] from
    ⟨Nat.le_refl _, by decide, fun _ => ⟨_, _, rfl, by omega, RowC.of_blk (Blk.new w 47 (cellsOf (encIK .i64) [out5]).toArray)⟩⟩)
  clear HAP
  go_enter Try.func10, Try.ntmps10
  go_wp2_with (first
    | ((with_reducible refine at_build 8 ?_); refine wpList_built rfl 47 #[(0, .const (.int .i64 5))] rfl (encIK .i64 out5).toArray (by kernel_rfl) ?_)
    | ((with_reducible refine at_buildSlice 9 ?_); refine tyOut.wpList_build rfl zbOut 1 _ rfl [out5] rfl (by omega) (by omega) (by kernel_rfl) ?_)
    | ((with_reducible refine at_build 10 ?_); refine wpList_built rfl 30 #[(2, .tmp 9)] rfl (TxA.cells ⟨txO, none, 0, some ⟨w.heap.size, 0, none⟩, 1, none, 0, none, 0⟩).toArray (by kernel_rfl) ?_)
    | ((with_reducible refine at_build 11 ?_); refine wpList_built rfl 27 #[(0, .const (.int .u8 1))] rfl (encK ck1).toArray (by kernel_rfl) ?_))
  refine (HP.out ⟨txO, none, 0, some ⟨w.heap.size, 0, none⟩, 1, none, 0, none, 0⟩ ck1 ⟨3, by decide⟩ none 0 [] _ ⟨RowIn.nil (Nat.zero_le _), by rw [World.size_alloc]; exact RO.out, RowIn.nil (Nat.zero_le _), RowIn.nil (Nat.zero_le _)⟩ (RowIn.nil (Nat.zero_le _)) (by decide) (show txO.ins.length ≤ 300 by decide) (show txO.outs.length ≤ 300 by decide) .nil).mono ?_
  rw [apply_shown1]
  rintro e w1 ⟨A1, c1, A2, c2, rfl, r1, _, b1⟩
  have R1 := Lib.hid (show RowIn encC 68 w1 w1.heap.size A1 c1 [coin5] from r1)
  have B1 := Lib.hid (B0.out.trans (b1.mono B0.out.size))
  clear r1 b1 B0 RO
  have B2 := Lib.hid (B1.out.trans ((Below.refl w1.heap.size w1).alloc (Nat.le_refl _) (.cells (cellsOf (encKI .u32) [pt1]).toArray 32) |>.mono B1.out.size))
  have RI := Lib.hid (show RowIn (encKI .u32) 33 (w1.alloc (.cells (cellsOf (encKI .u32) [pt1]).toArray 32)) (w1.heap.size + 1) (some ⟨w1.heap.size, 0, none⟩) 1 [pt1] from
    ⟨Nat.le_refl _, by decide, fun _ => ⟨_, _, rfl, by omega, RowC.of_blk (Blk.new w1 32 (cellsOf (encKI .u32) [pt1]).toArray)⟩⟩)
  go_wp2_with (first
    | ((with_reducible refine at_build 25 ?_); refine wpList_built rfl 27 #[(0, .const (.int .u8 1))] rfl (encK ck1).toArray (by kernel_rfl) ?_)
    | ((with_reducible refine at_build 26 ?_); refine wpList_built rfl 32 #[(0, .tmp 25)] rfl (encKI .u32 pt1).toArray (by kernel_rfl) ?_)
    | ((with_reducible refine at_buildSlice 27 ?_); refine tyPt.wpList_build rfl zbPt 1 _ rfl [pt1] rfl (by omega) (by omega) (by kernel_rfl) ?_)
    | ((with_reducible refine at_build 28 ?_); refine wpList_built rfl 30 #[(1, .tmp 27)] rfl (TxA.cells ⟨txI, some ⟨w1.heap.size, 0, none⟩, 1, none, 0, none, 0, none, 0⟩).toArray (by kernel_rfl) ?_)
    | ((with_reducible refine at_build 29 ?_); refine wpList_built rfl 27 #[(0, .const (.int .u8 2))] rfl (encK ck2).toArray (by kernel_rfl) ?_))
  refine (HP.out ⟨txI, some ⟨w1.heap.size, 0, none⟩, 1, none, 0, none, 0, none, 0⟩ ck2 ⟨4, by decide⟩ A1 c1 [coin5] _ ⟨by rw [World.size_alloc]; exact RI.out, RowIn.nil (Nat.zero_le _), RowIn.nil (Nat.zero_le _), RowIn.nil (Nat.zero_le _)⟩ ((R1.out.below ((Below.refl _ _).alloc (Nat.le_refl _) _)).more (by simp)) (by decide) (show txI.ins.length ≤ 300 by decide) (show txI.outs.length ≤ 300 by decide) (List.pairwise_singleton _ _)).mono ?_
  rw [apply_shown2]
  rintro e w2 ⟨A3, c3, A4, c4, rfl, _, r4, b2⟩
  obtain ⟨g, o, hA, hg, hc⟩ := r4.at encC_len (i := 0) (by decide)
  have hc5 : w2.cell? ⟨g, o + 0 * 68 + 33, none⟩ = some (.int .i64 5) := hc.co_out.head
  have B3 := Lib.hid (B2.out.trans (b2.mono B2.out.size))
  subst hA
  clear r4 b2 hc hg B1 B2 RI R1
  go_wp2_with fail
  go_ret
  exact ⟨rfl, B3.out⟩
end Go.Proofs.Ytkjgmhamglhggaa
