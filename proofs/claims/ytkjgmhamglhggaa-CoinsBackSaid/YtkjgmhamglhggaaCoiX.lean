/- What the walks of layer 9's laws share: blocks that turn, transactions that are made, rows of one. -/
import Derived.Test.YtkjgmhamglhggaaCoiW
import Derived.Test.YtkjgmhamglhggaaCellB
namespace Go.Proofs.Ytkjgmhamglhggaa
open Go.RowKit
def TxA.cIns (a : TxA) (l : List PtV) (A : Option Addr) (c : Nat) : TxA := { a with T := { a.T with ins := l }, Ai := A, ci := c }
def TxA.cOuts (a : TxA) (l : List (IntV .i64 × K32)) (A : Option Addr) (c : Nat) : TxA := { a with T := { a.T with outs := l }, Ao := A, co := c }
theorem TxA.setIns (a : TxA) (l : List PtV) (A : Option Addr) (c : Nat) : a.cells.toArray.setIfInBounds 1 (.slice A l.length c) = (a.cIns l A c).cells.toArray := tx_set_ins l A c
theorem TxA.setOuts (a : TxA) (l : List (IntV .i64 × K32)) (A : Option Addr) (c : Nat) : a.cells.toArray.setIfInBounds 2 (.slice A l.length c) = (a.cOuts l A c).cells.toArray := tx_set_outs l A c
def txN0 : TxA := ⟨txZero, none, 0, none, 0, none, 0, none, 0⟩
/-- a transaction of inputs and outs alone -/
def txIO (I : List PtV) (Ai : Option Addr) (ci : Nat) (O : List (IntV .i64 × K32)) (Ao : Option Addr) (co : Nat) : TxA := ⟨{ txZero with ins := I, outs := O }, Ai, ci, Ao, co, none, 0, none, 0⟩
theorem txIO_in {w : World} {B : Nat} {I : List PtV} {Ai Ao : Option Addr} {ci co : Nat} {O : List (IntV .i64 × K32)} (hi : RowIn (encKI .u32) 33 w B Ai ci I) (ho : RowIn (encIK .i64) 33 w B Ao co O) : (txIO I Ai ci O Ao co).In w B :=
  ⟨hi, ho, RowIn.nil (Nat.zero_le _), RowIn.nil (Nat.zero_le _)⟩
theorem txIO_ins (I J : List PtV) (Ai Aj Ao : Option Addr) (ci cj co : Nat) (O : List (IntV .i64 × K32)) : (txIO I Ai ci O Ao co).cells.toArray.setIfInBounds 1 (.slice Aj J.length cj) = (txIO J Aj cj O Ao co).cells.toArray := TxA.setIns _ J Aj cj
theorem txIO_outs (I : List PtV) (Ai Ao Ap : Option Addr) (ci co cp : Nat) (O Q : List (IntV .i64 × K32)) : (txIO I Ai ci O Ao co).cells.toArray.setIfInBounds 2 (.slice Ap Q.length cp) = (txIO I Ai ci Q Ap cp).cells.toArray := TxA.setOuts _ Q Ap cp
def ptZ : PtV := (zeroKey, ⟨0, by decide⟩)
def i0 : IntV .u32 := ⟨0, by decide⟩
theorem built1_P (t : TypeId) (ht : t = 32) (k : K32) : Try.prog.built t [(0, .agg (encK k).toArray)] = some (encKI .u32 (k, i0)).toArray := by
  subst ht
  obtain ⟨l, hl⟩ := k
  iterate 32 (rcases l with _ | ⟨b, l⟩; · simp at hl)
  rcases l with _ | ⟨b, l⟩
  · kernel_rfl
  · simp at hl
theorem pt_row {w : World} {g n : Nat} {l m : List PtV} (h : Blk w g 32 (cellsOf (encKI .u32) (l ++ m)).toArray) (hl : l.length ≤ n) (hn : n ≤ 1000) : RowIn (encKI .u32) 33 w w.heap.size (some ⟨g, 0, none⟩) n l :=
  ⟨hl, by unfold maxLen; omega, fun _ => ⟨_, _, rfl, h.lt, by
    have := RowC.of_blk h
    rw [cellsOf_append] at this
    exact this.left⟩⟩
theorem out_row {w : World} {g n : Nat} {l m : List (IntV .i64 × K32)} (h : Blk w g 47 (cellsOf (encIK .i64) (l ++ m)).toArray) (hl : l.length ≤ n) (hn : n ≤ 1000) : RowIn (encIK .i64) 33 w w.heap.size (some ⟨g, 0, none⟩) n l :=
  ⟨hl, by unfold maxLen; omega, fun _ => ⟨_, _, rfl, h.lt, by
    have := RowC.of_blk h
    rw [cellsOf_append] at this
    exact this.left⟩⟩
/-- a row of coins, and the cells of one of them -/
theorem crow_at {w : World} {B c : Nat} {g o : Nat} {l : List CoinV} (h : RowIn encC 68 w B (some ⟨g, o, none⟩) c l) (i : Nat) (hi : i < l.length) : RowC w g (o + i * 68) (encC l[i]) ∧ g < B := by
  obtain ⟨g', o', e, hg, hc⟩ := h.at encC_len hi
  simp only [Option.some.injEq, Addr.mk.injEq, and_true] at e
  obtain ⟨rfl, rfl⟩ := e
  exact ⟨hc, hg⟩
theorem ApplyOk.at (HAP : ApplyOk) {h : IntV .u32} {z : Int} (hz : h.1 = z) (a : TxA) (id : K32) (A : Option Addr) (c : Nat) (l : List CoinV) (w : World) (ha : a.In w w.heap.size) (hl : RowIn encC 68 w w.heap.size A c l) (hn : l.length ≤ 300) (hi : a.T.ins.length ≤ 300) (ho : a.T.outs.length ≤ 300) (hr : RisesK l) :
    Calls Try.prog 11 #[.slice A l.length c, .agg a.cells.toArray, .agg (encK id).toArray, .int .u32 z] w fun e w' => ∃ A1 c1 A2 c2, e = .returned (.tuple #[.slice A1 (applyR l a.T id h).1.1.length c1, .slice A2 (applyR l a.T id h).1.2.length c2, .int .i64 (applyR l a.T id h).2]) ∧ RowIn encC 68 w' w'.heap.size A1 c1 (applyR l a.T id h).1.1 ∧ RowIn encC 68 w' w'.heap.size A2 c2 (applyR l a.T id h).1.2 ∧ Below w.heap.size w w' := by
  subst hz
  exact HAP a id h A c l w ha hl hn hi ho hr
theorem RipeOk.at (HRP : RipeOk) {h : IntV .u32} {z : Int} (hz : h.1 = z) (c : CoinV) (w : World) : Calls Try.prog 21 #[.agg (encC c).toArray, .int .u32 z] w fun e w' => e = .returned (.bool (ripeF c h)) ∧ Below w.heap.size w w' := by
  subst hz
  exact HRP c h w
/-- a row of coins stays where another block turns -/
theorem crow_turn {w w' : World} {B g c gc oc : Nat} {l : List CoinV} (h : RowIn encC 68 w B (some ⟨gc, oc, none⟩) c l) (o : Only [g] w w') (hne : gc ≠ g) : RowIn encC 68 w' B (some ⟨gc, oc, none⟩) c l := by
  refine ⟨h.le, h.max, fun hn => ?_⟩
  obtain ⟨g', o', e, hlt, hc⟩ := h.cells hn
  simp only [Option.some.injEq, Addr.mk.injEq, and_true] at e
  obtain ⟨rfl, rfl⟩ := e
  refine ⟨gc, oc, rfl, hlt, fun i v hi => ?_⟩
  rw [o.cell (by simpa using hne)]
  exact hc i v hi
end Go.Proofs.Ytkjgmhamglhggaa
