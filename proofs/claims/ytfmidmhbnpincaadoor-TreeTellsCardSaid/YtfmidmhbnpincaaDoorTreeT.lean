/- What the project's tree answers, as assumptions that each law's walk takes; the law's 'shown'. Written by genTT.py. -/
import Derived.Test.YtfmidmhbnpincaaDoorTreeO
import Derived.Test.YtfmidmhbnpincaaDoorTreeG
import Derived.Test.YtfmidmhbnpincaaDoorTreeH
import Derived.Test.YtfmidmhbnpincaaDoorTreeQ
import Derived.Test.YtfmidmhbnpincaaDoorRoots
namespace Go.Proofs.YtfmidmhbnpincaaDoor
open Go.RowKit
def EmpTOk : Prop := ∀ (w : World), Roots w → Calls Tryd.prog 17 #[] w fun e w' => e = .returned (.agg (mkE 32 (by omega)).cells.toArray) ∧ Below w.heap.size w w'
def AppTOk : Prop := ∀ (t : TrV) (k : K32) (w : World), Roots w → Calls Tryd.prog 13 #[.agg t.cells.toArray, .agg (encK k).toArray] w fun e w' => e = .returned (.tuple #[.agg (appT t k).1.cells.toArray, .int .i64 (appT t k).2]) ∧ Below w.heap.size w w'
def RotTOk : Prop := ∀ (t : TrV) (w : World), Roots w → Calls Tryd.prog 15 #[.agg t.cells.toArray] w fun e w' => e = .returned (.agg (encK (rtK t 32)).toArray) ∧ Below w.heap.size w w'
def OfTOk : Prop := ∀ (A : Option Addr) (c : Nat) (l : List K32) (hl : l.length ≤ 100) (w : World), RowIn encK 32 w w.heap.size A c l → Roots w → Calls Tryd.prog 19 #[.slice A l.length c] w fun e w' => e = .returned (.agg (ofT l (by omega)).cells.toArray) ∧ Below w.heap.size w w'
def AllTOk : Prop := ∀ (t : TrV) (A : Option Addr) (c : Nat) (l : List K32) (w : World), l.length ≤ 100 → RowIn encK 32 w w.heap.size A c l → Roots w → Calls Tryd.prog 11 #[.agg t.cells.toArray, .slice A l.length c] w fun e w' => e = .returned (.tuple #[.agg (allT t l).1.cells.toArray, .int .i64 (allT t l).2]) ∧ Below w.heap.size w w'
/-- the tables of roots stand in every later world -/
theorem Roots.on {w : World} (h : Roots w) : ∀ W, Below w.heap.size w W → Roots W := fun _ hb => h.below hb h.lt0 h.lt1
/-- these blocks stand so, and all that was there ahead of w is as it was -/
structure Holds (w : World) (L : List (Nat × TypeId × Array Value)) (W : World) : Prop where
  below : Below w.heap.size w W
  blks : ∀ x ∈ L, Blk W x.1 x.2.1 x.2.2
section
variable {w W W' : World} {L : List (Nat × TypeId × Array Value)}
theorem Holds.nil (w : World) : Holds w [] w := ⟨Below.refl _ _, fun _ h => by cases h⟩
theorem Holds.call (h : Holds w L W) (hb : Below W.heap.size W W') : Holds w L W' := ⟨h.below.trans (hb.mono h.below.size), fun x hx => below_blk hb (h.blks x hx) (h.blks x hx).lt⟩
theorem Holds.put {t : TypeId} {ob : Obj} {cs : Array Value} (h : Holds w L W) (o : Only [W.heap.size] (W.alloc ob) W') (b : Blk W' W.heap.size t cs) : Holds w ((W.heap.size, t, cs) :: L) W' :=
  ⟨h.below.trans ((((Below.refl _ _).alloc (Nat.le_refl _) ob).trans (o.below (by simp))).mono h.below.size), fun x hx => by
    rcases List.mem_cons.1 hx with rfl | hx
    · exact b
    · exact o.blk ((h.blks x hx).alloc ob) (by have := (h.blks x hx).lt; simp; omega)⟩
theorem Holds.box (h : Holds w L W) (t : TypeId) (cs : Array Value) : Holds w ((W.heap.size, t, cs) :: L) (W.alloc (.cells cs t)) :=
  ⟨h.below.trans (((Below.refl _ _).alloc (Nat.le_refl _) _).mono h.below.size), fun x hx => by
    rcases List.mem_cons.1 hx with rfl | hx
    · exact Blk.new W t cs
    · exact (h.blks x hx).alloc _⟩
theorem Holds.at {x : Nat × TypeId × Array Value} (h : Holds w L W) (hx : x ∈ L) : Blk W x.1 x.2.1 x.2.2 := h.blks x hx
end
def k5 : K32 := ⟨5 :: List.replicate 31 0, by simp⟩
def t5 : TrV := ⟨1, k5 :: List.replicate 31 zeroKey, by decide, by simp⟩
theorem appT_k5 : appT zT k5 = (t5, 0) := by
  unfold appT
  rw [dif_neg (by decide)]
  rfl
set_option maxRecDepth 100000 in
set_option maxHeartbeats 2000000 in
theorem tshown_any (HA : AppTOk) (w : World) (hR : Roots w) :
    Calls Tryd.prog 10 #[] w fun e w' => e = .returned (.bool true) ∧ Below w.heap.size w w' := by
  have hc := HA zT k5 w hR
  rw [appT_k5] at hc
  have HC := Lib.hid hc
  obtain ⟨Z, hZ, hz, hzs, hzn⟩ := zero_of zeroTr_ok zT_size
  have HS := Lib.hid hzs
  clear hc hZ hzs hR
  go_enter Tryd.func10, Tryd.ntmps10
  go_wp2_with (first
    | ((with_reducible refine at_build 4 ?_); refine wpList_built rfl 27 #[] rfl zT.cells.toArray (by kernel_rfl) ?_)
    | ((with_reducible refine at_build 5 ?_); refine wpList_built rfl 24 #[(0, .const (.int .u8 5))] rfl (encK k5).toArray (by kernel_rfl) ?_))
  refine HC.out.mono ?_
  rintro e w1 ⟨rfl, b1⟩
  have K5 : RowC w1 0 0 [] := fun j v h => by simp at h
  clear HC K5
  go_wp2_with (first
    | ((with_reducible refine at_store 1 7 ?_); refine tyTr.wpList_store rfl (.tmp 1) (.tmp 7) rfl rfl w1.heap.size t5 rfl rfl 27 Z (Blk.new w1 27 Z) (by rw [HS.out]) ?_; intro w2 o2 b2
       have H2 := Lib.hid (((Holds.nil w).call b1).put o2 b2)
       have P2 := Lib.hid (show RowC w2 w1.heap.size 1 (encK k5) from TrV.c1 (t := t5) (RowC.of_blk b2) 0 (by omega))
       have c2 : w2.cell? ⟨w1.heap.size, 0, none⟩ = some (.int .u32 (1 : Nat)) := TrV.c0 (t := t5) (RowC.of_blk b2)
       clear o2 b2)
    | ((with_reducible refine at_loadg 14 ?_); refine tyKc.wpList_load (by rfl) (.tmp 14) rfl w1.heap.size 1 rfl k5 P2.out ?_)
    | ((with_reducible refine at_eqlg 15 16 ?_); refine wpList_eql_rowg (by rfl) 24 24 (.tmp 15) (.tmp 16) rfl (encK k5).toArray (encK k5).toArray rfl rfl (by kernel_rfl) true (fun V => (eqKy_run _ _ V).trans (by simp)) ?_; simp only [Act.put, List.setIfInBounds_toArray, List.set_cons_succ, List.set_cons_zero]))
  go_ret
  exact ⟨rfl, H2.out.below⟩
end Go.Proofs.YtfmidmhbnpincaaDoor
