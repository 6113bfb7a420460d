/- Plain: the document's Apply; the law's heavy; a row apart from the one that grows. -/
import Derived.Test.YtkjgmhamglhggaaCoiG
namespace Go.Proofs.Ytkjgmhamglhggaa
open Go.RowKit
/-- the coins that a transaction makes, from the i-th out on -/
def madeC (id : K32) (h : IntV .u32) (b : Bool) : Nat → List (IntV .i64 × K32) → List CoinV
  | _, [] => []
  | i, o :: os => ⟨(id, toU32 i), o, h, b⟩ :: madeC id h b (i + 1) os
theorem madeC_len (id : K32) (h : IntV .u32) (b : Bool) : ∀ (os : List (IntV .i64 × K32)) (i : Nat), (madeC id h b i os).length = os.length
  | [], _ => rfl
  | _ :: os, i => congrArg (· + 1) (madeC_len id h b os (i + 1))
def takeF (l : List CoinV) (T : TxV) (h : IntV .u32) : Option (List CoinV × List CoinV) :=
  if coinF T then some (l, []) else takeC CoinV.at_ (fun c => ripeF c h) l T.ins
def applyF (l : List CoinV) (T : TxV) (id : K32) (h : IntV .u32) : Except Int (List CoinV × List CoinV) := match takeF l T h with
  | none => .error 160
  | some x => match addC CoinV.at_ ltP x.1 (madeC id h (coinF T) 0 T.outs) with
    | none => .error 4
    | some r => .ok (r, x.2)
section
variable {h : IntV .u32} {m m' : List CoinV} {p : PtV} {ps : List PtV} {x : CoinV}
theorem take_no (hf : findK m p = none) : takeC CoinV.at_ (fun c => ripeF c h) m (p :: ps) = none := by
  rw [takeC, show findC CoinV.at_ m p = none from hf]
theorem take_raw (hf : findK m p = some x) (hr : ripeF x h = false) : takeC CoinV.at_ (fun c => ripeF c h) m (p :: ps) = none := by
  rw [takeC, show findC CoinV.at_ m p = some x from hf]
  simp only [hr]
  rfl
theorem take_yes (hf : findK m p = some x) (hd : delC CoinV.at_ m p = m') (hr : ripeF x h = true) : takeC CoinV.at_ (fun c => ripeF c h) m (p :: ps) = (takeC CoinV.at_ (fun c => ripeF c h) m' ps).map fun y => ((y.1, x :: y.2) : List CoinV × List CoinV) := by
  rw [takeC, show findC CoinV.at_ m p = some x from hf]
  simp only [hr, hd, if_true]
/-- with what was spent so far -/
def withC (q : List CoinV) (r : Option (List CoinV × List CoinV)) : Option (List CoinV × List CoinV) := r.map fun y => (y.1, q ++ y.2)
theorem withC_cons (q : List CoinV) (x : CoinV) (r : Option (List CoinV × List CoinV)) : withC q (r.map fun y => (y.1, x :: y.2)) = withC (q ++ [x]) r := by
  cases r with
  | none => rfl
  | some y => simp [withC]
end
theorem crow_apart {w w' : World} {row : Option Nat} {A : Option Addr} {c : Nat} {l : List CoinV} (h : RowIn encC 68 w w.heap.size A c l) (hg : w.grownBy w' row) (hne : ∀ a, A = some a → some a.block ≠ row) : RowIn encC 68 w' w'.heap.size A c l := by
  refine ⟨h.le, h.max, fun hn => ?_⟩
  obtain ⟨g, o, e, hlt, hc⟩ := h.cells hn
  refine ⟨g, o, e, Nat.lt_of_lt_of_le hlt hg.size, fun i v hi => ?_⟩
  have hb := hg.block g hlt (hne _ e)
  have := hc i v hi
  unfold World.cell? at this ⊢
  simpa [hb] using this
def cheavyF (l : List CoinV) (T : TxV) : Bool := decide (100 < l.length ∨ 60 < T.ins.length ∨ 60 < T.outs.length)
theorem coheavy_any (A : Option Addr) (c : Nat) (l : List CoinV) (a : TxA) (w : World) (hn : l.length ≤ 1000000) :
    Calls Try.prog 9 #[.slice A l.length c, .agg a.cells.toArray] w fun e w' => e = .returned (.bool (cheavyF l a.T)) ∧ Below w.heap.size w w' := by
  have hb : RowC (w.alloc (.cells a.cells.toArray 30)) w.heap.size 0 a.cells := RowC.of_blk (Blk.new _ _ _)
  have c1 := TxA.c1 hb
  have c2 := TxA.c2 hb
  clear hb
  have hx : ∀ b : Bool, (b = true ↔ (100 < (l.length : Int) ∨ 60 < (a.T.ins.length : Int) ∨ 60 < (a.T.outs.length : Int))) → Ending.returned (Value.bool b) = .returned (.bool (cheavyF l a.T)) := fun b hb => by
    congr 2
    rw [Bool.eq_iff_iff, hb]
    unfold cheavyF
    simp only [decide_eq_true_iff]
    omega
  have HX := Lib.hid hx
  clear hx
  go_enter Try.func9, Try.ntmps9
  go_wp2
  all_goals
    go_ret
    refine ⟨HX.out _ ?_, (Below.refl _ _).alloc (Nat.le_refl _) _⟩
    simp
    omega
end Go.Proofs.Ytkjgmhamglhggaa
