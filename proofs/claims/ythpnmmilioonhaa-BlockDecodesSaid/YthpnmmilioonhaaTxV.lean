/- tx's reader: try, which recovers; Read, Decode. -/
import Derived.Test.YthpnmmilioonhaaTxX
import Derived.Defers
import Derived.Recover
import Derived.RegionTactic
namespace Go.Proofs.Ythpnmmilioonhaa
open Go.RowKit
theorem TL.onlyT {w w' : World} {g : Nat} {a : TxA} (h : TL w a) {t : TypeId} {cs : Array Value} (ho : Only [g] w w') (hg : Blk w g t cs) (h1 : 49 ≠ t) (h2 : 92 ≠ t) (h3 : 24 ≠ t) : TL w' a :=
  ⟨h.ins.only ho hg h1, h.outs.only ho hg h2, h.nulls.only ho hg h3, h.notes.only ho hg h3⟩
def panE (er : Int) : List PanicEntry := [{ v := .iface 29 (.int .i64 er), recovered := false }]
theorem tas_errno (v : Value) (w : World) : (Instr.typeAssert (.iface 29 v) 20 29 false).run Try.prog w = .ok v w := by kernel_rfl
theorem tcatch_idle (p q : Addr) (w : World) :
    CallsD Try.prog 81 #[.pointer (some p), .pointer (some q)] .returning w fun e u' w' => e = .returned (.tuple #[]) ∧ u' = .returning ∧ w' = w := by
  refine callsD_of_wpS Try.func81 rfl fun c₀ cs hu => ?_
  apply wpS_seq
  apply wpS_region
  simp [wpOpsS, go_sem, recoverD, hu, Try.ntmps81, Exit.thenS]
  apply wpS_seq
  apply wpS_region
  simp [wpOpsS, go_sem, Exit.thenS]
  refine wpS_cond (t := false) (by simp [Act.eval, Array.replicate]) ?_
  simp only [Bool.false_eq_true, if_false]
  refine wpS_of_wp (wp_skip ?_)
  cases c₀
  simp_all [bodyPostS, results, Try.results81]
set_option maxRecDepth 20000 in
theorem tcatch_panicking (p q : Nat) (er : Int) (w : World) (cs : Array Value) (hcs : cs.size = 38) (hp : Blk w p 44 cs) (hq : Blk w q 29 #[.int .i64 0]) (hpq : p ≠ q) :
    CallsD Try.prog 81 #[.pointer (some ⟨p, 0, none⟩), .pointer (some ⟨q, 0, none⟩)] (.panicking (panE er)) w fun e u' w' =>
      e = .returned (.tuple #[]) ∧ u' = .panicking [{ v := .iface 29 (.int .i64 er), recovered := true }] ∧ Only [p, q] w w' ∧ Blk w' p 44 aZ.cells.toArray ∧ Blk w' q 29 #[.int .i64 er] := by
  have HP := Lib.hid hp
  have HQ := Lib.hid hq
  clear hp hq
  refine callsD_of_wpS Try.func81 rfl fun c₀ cs hu => ?_
  apply wpS_seq
  apply wpS_region
  simp [wpOpsS, go_sem, recoverD, hu, panE, Try.ntmps81, Exit.thenS]
  apply wpS_seq
  apply wpS_region
  simp [wpOpsS, go_sem, Exit.thenS]
  refine wpS_cond (t := true) (by simp [Act.eval, Array.replicate]) ?_
  simp only [if_true]
  refine wpS_of_wp ?_
  have has := tas_errno
  simp only [Array.replicate, List.replicate, List.append_toArray, List.cons_append, List.nil_append, List.setIfInBounds_toArray, List.set_cons_succ, List.set_cons_zero]
  refine wp_region_held_drew (S := fun w' => Only [p, q] w w' ∧ (∃ cs : Array Value, cs.size = 38 ∧ Blk w' p 44 cs) ∧ ∃ v, Blk w' q 29 #[v]) (by kernel_rfl) ⟨(Only.refl _ _).drew, ⟨_, hcs, HP.out.drew⟩, ⟨_, HQ.out.drew⟩⟩ ?_
  intro hS0
  refine wpAnyH_take (i := 0) (v := .agg aZ.cells.toArray) rfl (by kernel_rfl) (by kernel_rfl) (by kernel_rfl) (fun _ _ _ h => h) (yieldsIf_build (by rfl) 44 #[] rfl aZ.cells.toArray (by kernel_rfl)) hS0 ?_
  simp only [Act.put, List.getElem_toArray, List.getElem_cons_zero, List.setIfInBounds_toArray, List.set_cons_succ, List.set_cons_zero]
  refine wpAnyH_take (i := 1) (v := .iface 29 (.int .i64 er)) rfl (by kernel_rfl) (by kernel_rfl) (by kernel_rfl) (fun _ _ _ h => h) (Or.inl ⟨by rfl, fun W _ => by go_simp; try with_reducible rfl⟩) hS0 ?_
  simp only [Act.put, List.getElem_toArray, List.getElem_cons_zero, List.getElem_cons_succ, List.setIfInBounds_toArray, List.set_cons_succ, List.set_cons_zero]
  refine wpAnyH_take (i := 2) (v := .int .i64 er) rfl (by kernel_rfl) (by kernel_rfl) (by kernel_rfl) (fun _ _ _ h => h) (Or.inl ⟨by rfl, fun W _ => by go_simp; try with_reducible rfl⟩) hS0 ?_
  simp only [Act.put, List.getElem_toArray, List.getElem_cons_zero, List.getElem_cons_succ, List.setIfInBounds_toArray, List.set_cons_succ, List.set_cons_zero]
  obtain ⟨c1, h1, k1⟩ := hS0.2.1
  obtain ⟨v1, k2⟩ := hS0.2.2
  refine wpAnyH_ready (rs := [3]) (by kernel_rfl) (by simp) ?_
  refine AllReadyH.cons rfl (fun Kq hK => ?_) AllReadyH.nil
  refine step_store_arr rfl 44 (.tmp 0) (.tmp 6) rfl rfl p aZ.cells.toArray rfl rfl 44 _ k1 (by rw [tyTx.arr]; kernel_rfl) (by rw [tyTx.arr, h1]) (by rw [List.all_toArray, List.all_eq_true]; exact tyTx.one _) ?_
  intro w2 o2 b2
  have k2' := o2.blk k2 (by simpa using fun e => hpq e.symm)
  refine hK.out _ _ ⟨hS0.1.trans (o2.mono (by simp)), ⟨_, tyTx.arr _, b2⟩, ⟨_, k2'⟩⟩ (fun hS1 => ?_)
  clear hK Kq
  have kc := k2'.cell 0
  have kz := k2'.frozen 0
  refine wpAnyH_ready (rs := [4]) (by kernel_rfl) (by simp) ?_
  refine AllReadyH.cons rfl (fun Kq hK => ?_) AllReadyH.nil
  go_simp
  have o3 : Only [q] w2 (w2.setCell ⟨q, 0, none⟩ (.int .i64 er)) := (Only.refl _ _).setCell (by simp) _
  have b3 := k2'.set_ 0 (.int .i64 er)
  refine hK.out _ _ ⟨hS1.1.trans (o3.mono (by simp)), ⟨_, tyTx.arr _, o3.blk b2 (by simpa using hpq)⟩, ⟨_, b3⟩⟩ (fun hS2 => ?_)
  clear hK Kq
  refine wpAnyH_done (by kernel_rfl) ?_ _
  have f1 := hS2.1
  have f2 := o3.blk b2 (by simpa using hpq)
  have f3 : Blk (w2.setCell ⟨q, 0, none⟩ (.int .i64 er)) q 29 #[.int .i64 er] := b3
  simp [bodyPostS, results, Try.results81]
  exact ⟨f1, f2, f3⟩
theorem enter_try (caps : Array Value) (W : World) : (callFunc 81 caps).run Try.prog W = .ok (.enter 81 caps) W := by simp [go_sem]
theorem loadTx (a : TxA) {w : World} {g : Nat} (h : Blk w g 44 a.cells.toArray) : (loadVar 44 ⟨g, 0, none⟩).run Try.prog w = .ok (.agg a.cells.toArray) w := tyTx.load w g 0 a (by simpa using RowC.of_blk h)
theorem loadErr {w : World} {g : Nat} {v : Value} (h : Blk w g 29 #[v]) : (loadVar 29 ⟨g, 0, none⟩).run Try.prog w = .ok v w := run_loadVar_one Try.isAgg29 ((h.cell 0).trans rfl)
theorem at_storeK {P : Program} {ops : Array Oper} {rest : List Oper} {a : Act} {w : World} {Q : Exit → Act → World → Prop} {ty ty0 : TypeId} {v : Value} {pos : String} {after : Array Edge} (i : Nat)
    (h : wpList P ops Q ({ dst := none, op := .store ty (.tmp i) (.const v), type := ty0, pos := pos, after := after, guard := none } :: rest) a w) :
    wpList P ops Q ({ dst := none, op := .store ty (.tmp i) (.const v), type := ty0, pos := pos, after := after, guard := none } :: rest) a w := h
theorem results_cells2 {P : Program} {fn : Func} {p q : Tmp} {t1 t2 : TypeId} (h : fn.results = #[.cell p t1, .cell q t2]) (tmps : Array Value) (w : World) (a b : Addr) {x y : Value} (hp : tmps.getD p undef = .pointer (some a)) (hq : tmps.getD q undef = .pointer (some b))
    (hx : (loadVar t1 a).run P w = .ok x w) (hy : (loadVar t2 b).run P w = .ok y w) : (results fn tmps).run P w = .ok (.tuple #[x, y]) w := by
  have hp' : tmps[p]?.getD undef = .pointer (some a) := by simpa using hp
  have hq' : tmps[q]?.getD undef = .pointer (some b) := by simpa using hq
  simp [results, h, hp', hq', asAddr, hx, hy]
/-- how try answers -/
def EndT (g : Nat) (w : World) (x : Except Int (TxV × List UInt8)) (e : Ending) (w' : World) : Prop :=
  match x with
  | .ok (T, r) => ∃ a : TxA, a.T = T ∧ e = .returned (.tuple #[.agg a.cells.toArray, .int .i64 0]) ∧ TL w' a ∧ Rb w' g r ∧ Past g w w'
  | .error er => e = .returned (.tuple #[.agg aZ.cells.toArray, .int .i64 er]) ∧ Past g w w'
set_option maxRecDepth 20000 in
theorem try_r (l : List UInt8) (hs : l.length ≤ 1000000) (g : Nat) (w : World) (hr : Rb w g l) :
    Calls Try.prog 75 #[.pointer (some ⟨g, 0, none⟩)] w (EndT g w (txR l)) := by
  have hmf : ∀ (fn : Fn) (first cap : Array Value) (w : World), (Instr.makeFunc fn first cap).run Try.prog w = .ok (.func fn first cap) w := fun _ _ _ _ => rfl
  have hc := tx_r l hs g
  have hlg : g < w.heap.size := hr.lt
  have HRA := Lib.hid (fun c2 c3 => (show Rb ((w.alloc (.cells c2 44)).alloc (.cells c3 29)) g l from (hr.alloc _).alloc _))
  have HPA := Lib.hid (fun c2 c3 => (show Past g w ((w.alloc (.cells c2 44)).alloc (.cells c3 29)) from Past.of_below (((Below.refl _ _).alloc (Nat.le_refl _) _).alloc (by simp) _)))
  clear hr
  cases hq : txR l with
  | error er =>
    rw [hq] at hc
    have HC := Lib.hid hc
    clear hq hc
    go_enter_defers Try.func75, Try.ntmps75
    go_wp2_with fail
    refine (HC.out _ (HRA.out _ _)).mono ?_
    rintro e w1 ⟨rfl, px⟩
    have k2 := px.blk ((Blk.new w 44 _).alloc _) (by omega)
    have k3 := px.blk (blk_new (g := w.heap.size + 1) 29 _ (by simp)) (by omega)
    have pp := (HPA.out _ _).trans px
    refine leaves_cons (f := 81) (args := #[.pointer (some ⟨w.heap.size, 0, none⟩), .pointer (some ⟨w.heap.size + 1, 0, none⟩)]) (by simp) (by simp [go_sem]) ?_
    refine (tcatch_panicking w.heap.size (w.heap.size + 1) er _ _ rfl k2 k3 (by omega)).mono ?_
    rintro e u' w2 ⟨rfl, rfl, o2, b2, b3⟩
    have l2 := loadTx aZ b2
    have l3 := loadErr b3
    have pf : Past g w w2 := ⟨o2.os.trans pp.os, o2.tape.trans pp.tape, o2.output.trans pp.output, Nat.le_trans pp.size (Nat.le_of_eq o2.size.symm), fun i hi hg => (o2.block i (by simp; omega)).trans (pp.block i hi hg)⟩
    clear b2 b3 o2 k2 k3
    exact ⟨_, results_cells2 rfl _ _ _ _ rfl rfl l2 l3, rfl, pf⟩
  | ok x =>
    obtain ⟨T, r⟩ := x
    rw [hq] at hc
    have HC := Lib.hid hc
    clear hq hc
    go_enter_defers Try.func75, Try.ntmps75
    go_wp2_with fail
    refine (HC.out _ (HRA.out _ _)).mono ?_
    rintro e w1 ⟨v, rfl, ⟨a, rfl, rfl, ain⟩, bx, px⟩
    have k2 := px.blk ((Blk.new w 44 _).alloc _) (by omega)
    have k3 := px.blk (blk_new (g := w.heap.size + 1) 29 _ (by simp)) (by omega)
    have pp := (HPA.out _ _).trans px
    have K2 := Lib.hid k2
    have K3 := Lib.hid k3
    have PP := Lib.hid pp
    have BX := Lib.hid bx
    have AIN := Lib.hid ain
    have l1 : w.heap.size + 1 < w1.heap.size := k3.lt
    have z3 := k3.frozen 0
    have c3 := k3.cell 0
    clear k2 k3 pp bx ain px HRA HPA HC
    go_wp2_with (first
      | ((with_reducible refine at_store 2 6 ?_); refine tyTx.wpList_store rfl (.tmp 2) (.tmp 6) rfl rfl w.heap.size a rfl rfl 44 _ K2.out rfl ?_; intro w2 o2 b2)
      | ((with_reducible refine at_storeK 3 ?_); refine wpList_store_blk rfl 29 (.tmp 3) (.const (.int .i64 0)) rfl rfl (w.heap.size + 1) (.int .i64 0) rfl rfl rfl 29 _ (o2.blk K3.out (by simp)) (by kernel_rfl) ?_; intro w3 o3 b3))
    refine leaves_cons (f := 81) (args := #[.pointer (some ⟨w.heap.size, 0, none⟩), .pointer (some ⟨w.heap.size + 1, 0, none⟩)]) (by simp) (by simp [go_sem]) ?_
    refine (tcatch_idle ⟨w.heap.size, 0, none⟩ ⟨w.heap.size + 1, 0, none⟩ _).mono ?_
    rintro e u' w4 ⟨rfl, rfl, rfl⟩
    have l2 := loadTx a (o3.blk b2 (by simp))
    have l3 := loadErr b3
    have pf : Past g w w4 := (PP.out.new o2 (Nat.le_refl _)).new o3 (by omega)
    exact ⟨_, results_cells2 rfl _ _ _ _ rfl rfl l2 l3, a, rfl, rfl, (AIN.out.only o2 K2.out).onlyT o3 (o2.blk K3.out (by simp)) (by decide) (by decide) (by decide), o3.blk (o2.blk BX.out (by simp; omega)) (by simp; omega), pf⟩
end Go.Proofs.Ythpnmmilioonhaa
