/- money.told: the deferred closure's two contracts, and told of any closure that ends well or panics with ErrMoney. -/
import Derived.Test.YticphjnabecanaaMonA
import Derived.Test.YticphjnabecanaaGenA
import Derived.Defers
import Derived.Recover
import Derived.RegionTactic
namespace Go.Proofs.Yticphjnabecanaa
open Go.RowKit
theorem as_errno (v : Value) (w : World) : (Instr.typeAssert (.iface 34 v) 20 34 false).run Try.prog w = .ok v w := by kernel_rfl
theorem catch_idle (p q : Addr) (w : World) :
    CallsD Try.prog 85 #[.pointer (some p), .pointer (some q)] .returning w fun e u' w' => e = .returned (.tuple #[]) ∧ u' = .returning ∧ w' = w := by
  refine callsD_of_wpS Try.func85 rfl fun c₀ cs hu => ?_
  apply wpS_seq
  apply wpS_region
  simp [wpOpsS, go_sem, recoverD, hu, Try.ntmps85, Exit.thenS]
  apply wpS_seq
  apply wpS_region
  simp [wpOpsS, go_sem, Exit.thenS]
  refine wpS_cond (t := false) (by simp [Act.eval, Array.replicate]) ?_
  simp only [Bool.false_eq_true, if_false]
  refine wpS_of_wp (wp_skip ?_)
  cases c₀
  simp_all [bodyPostS, results, Try.results85]
theorem catch_panicking (p q : Addr) (w : World) (hp : w.cell? p = some (.int .i64 0)) (hpz : w.frozen? p = false) (hq : w.cell? q = some (.int .i64 0)) (hqz : w.frozen? q = false) (hpq : p ≠ q) :
    CallsD Try.prog 85 #[.pointer (some p), .pointer (some q)] (.panicking errCh) w fun e u' w' =>
      e = .returned (.tuple #[]) ∧ u' = .panicking [{ v := .iface 34 (.int .i64 20), recovered := true }] ∧ w' = ((w.setCell p (.int .i64 0)).setCell q (.int .i64 20)).drew := by
  refine callsD_of_wpS Try.func85 rfl fun c₀ cs hu => ?_
  apply wpS_seq
  apply wpS_region
  simp [wpOpsS, go_sem, recoverD, hu, errCh, Try.ntmps85, Exit.thenS]
  apply wpS_seq
  apply wpS_region
  simp [wpOpsS, go_sem, Exit.thenS]
  refine wpS_cond (t := true) (by simp [Act.eval, Array.replicate]) ?_
  simp only [if_true]
  refine wpS_of_wp ?_
  have has := as_errno
  simp only [Array.replicate, List.replicate, List.append_toArray, List.cons_append, List.nil_append, List.setIfInBounds_toArray, List.set_cons_succ, List.set_cons_zero]
  go_region
  all_goals simp [bodyPostS, results, Try.results85]
theorem boxes2 {w w2 : World} (b2 : Below ((w.alloc (.cells #[.int .i64 0] 2)).alloc (.cells #[.int .i64 0] 34)).heap.size ((w.alloc (.cells #[.int .i64 0] 2)).alloc (.cells #[.int .i64 0] 34)) w2) :
    Blk w2 w.heap.size 2 #[.int .i64 0] ∧ Blk w2 (w.heap.size + 1) 34 #[.int .i64 0] ∧ Below w.heap.size w w2 :=
  ⟨below_blk b2 ((Blk.new w _ _).alloc _) (by simp; omega), below_blk b2 (blk_new _ _ (by simp)) (by simp), (((Below.refl _ _).alloc (Nat.le_refl _) _).alloc (by simp) _).trans (b2.mono (by simp; omega))⟩
theorem told_some (g : FuncId) (caps : Array Value) (n : Int) (w : World) (hen : ∀ W, (callFunc g caps).run Try.prog W = .ok (.enter g caps) W)
    (hf : ∀ w1, Below w.heap.size w w1 → Calls Try.prog g caps w1 fun e w' => e = .returned (.int .i64 n) ∧ Below w1.heap.size w1 w') :
    Calls Try.prog 78 #[.func (.func g) #[] caps] w fun e w' => e = .returned (resO (some n)) ∧ Below w.heap.size w w' := by
  have hmf : ∀ (fn : Fn) (first cap : Array Value) (w : World), (Instr.makeFunc fn first cap).run Try.prog w = .ok (.func fn first cap) w := fun _ _ _ _ => rfl
  have HF := Lib.hid hf
  clear hf
  go_enter_defers Try.func78, Try.ntmps78
  go_wp2_with fail
  refine (HF.out _ (((Below.refl _ _).alloc (Nat.le_refl _) _).alloc (by simp) _)).mono ?_
  rintro e w2 ⟨rfl, b2⟩
  obtain ⟨k0, k1, B⟩ := boxes2 b2
  have c0 := k0.cell 0
  have z0 := k0.frozen 0
  have c1 := k1.cell 0
  have z1 := k1.frozen 0
  have K0 := Lib.hid k0
  have K1 := Lib.hid k1
  have BB := Lib.hid B
  clear k0 k1 B b2
  simp only [List.getElem?_toArray, List.getElem?_cons_zero] at c0 c1
  go_wp2
  refine leaves_cons (f := 85) (args := #[.pointer (some ⟨w.heap.size, 0, none⟩), .pointer (some ⟨w.heap.size + 1, 0, none⟩)]) (by simp) (by simp [go_sem]) ?_
  refine (catch_idle ⟨w.heap.size, 0, none⟩ ⟨w.heap.size + 1, 0, none⟩ _).mono ?_
  rintro e u' w'' ⟨rfl, rfl, rfl⟩
  have B3 := (BB.out.setCell (p := ⟨w.heap.size, 0, none⟩) (Nat.le_refl _) (.int .i64 n)).setCell (p := ⟨w.heap.size + 1, 0, none⟩) (by simp) (.int .i64 0)
  simp [Leaves, settle, results, Try.results78, go_sem, resO, valO, errO, c0, c1, B3]
theorem told_none (g : FuncId) (caps : Array Value) (w : World) (hen : ∀ W, (callFunc g caps).run Try.prog W = .ok (.enter g caps) W)
    (hf : ∀ w1, Below w.heap.size w w1 → Calls Try.prog g caps w1 fun e w' => e = .panicked errCh ∧ Below w1.heap.size w1 w') :
    Calls Try.prog 78 #[.func (.func g) #[] caps] w fun e w' => e = .returned (resO none) ∧ Below w.heap.size w w' := by
  have hmf : ∀ (fn : Fn) (first cap : Array Value) (w : World), (Instr.makeFunc fn first cap).run Try.prog w = .ok (.func fn first cap) w := fun _ _ _ _ => rfl
  have HF := Lib.hid hf
  clear hf
  go_enter_defers Try.func78, Try.ntmps78
  go_wp2_with fail
  refine (HF.out _ (((Below.refl _ _).alloc (Nat.le_refl _) _).alloc (by simp) _)).mono ?_
  rintro e w2 ⟨rfl, b2⟩
  obtain ⟨k0, k1, B⟩ := boxes2 b2
  have c0 := k0.cell 0
  have z0 := k0.frozen 0
  have c1 := k1.cell 0
  have z1 := k1.frozen 0
  have K0 := Lib.hid k0
  have K1 := Lib.hid k1
  have BB := Lib.hid B
  clear k0 k1 B b2
  simp only [List.getElem?_toArray, List.getElem?_cons_zero] at c0 c1
  refine leaves_cons (f := 85) (args := #[.pointer (some ⟨w.heap.size, 0, none⟩), .pointer (some ⟨w.heap.size + 1, 0, none⟩)]) (by simp) (by simp [go_sem]) ?_
  refine (catch_panicking ⟨w.heap.size, 0, none⟩ ⟨w.heap.size + 1, 0, none⟩ _ c0 z0 c1 z1 (by simp)).mono ?_
  rintro e u' w'' ⟨rfl, rfl, rfl⟩
  have B3 := ((BB.out.setCell (p := ⟨w.heap.size, 0, none⟩) (Nat.le_refl _) (.int .i64 0)).setCell (p := ⟨w.heap.size + 1, 0, none⟩) (by simp) (.int .i64 20)).drew
  simp [Leaves, settle, results, Try.results78, go_sem, resO, valO, errO, c0, c1, B3]
end Go.Proofs.Yticphjnabecanaa
