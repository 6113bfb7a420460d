/- Fees: plain; the document's functions; what is assumed of the project's; the law's heavy and shown. -/
import Derived.Test.YtpoejbfcioijhaaTxAllA
import Derived.Test.YtpoejbfcioijhaaCellB
namespace Go.Proofs.Ytpoejbfcioijhaa
open Go.RowKit
def actF (T : TxV) : Nat := max T.ins.length T.outs.length + max T.nulls.length T.notes.length
def dueF (T : TxV) : Nat := max (actF T) 2
def heldF (f : Int) : Int := min (max f 0) 2100000000000000
def convF (T : TxV) : Int := 5000 * (dueF T : Int)
def unpF (T : TxV) (f : Int) : Int := max ((dueF T : Int) - heldF f / 5000) 0
def wgtF (T : TxV) (f : Int) : Int := max (min (heldF f) (4 * convF T) * 65536 / convF T) 1
def paysF (T : TxV) (f : Int) : Bool := decide (convF T ≤ heldF f)
structure Few (T : TxV) : Prop where
  i : T.ins.length ≤ 100
  o : T.outs.length ≤ 100
  n : T.nulls.length ≤ 100
  t : T.notes.length ≤ 100
theorem Few.due {T : TxV} (h : Few T) : 2 ≤ dueF T ∧ dueF T ≤ 200 ∧ actF T ≤ 200 := by
  have := h.i; have := h.o; have := h.n; have := h.t
  unfold dueF actF
  omega
theorem held_le (f : Int) : 0 ≤ heldF f ∧ heldF f ≤ 2100000000000000 := by unfold heldF; omega
def isI64 (f : Int) : Prop := -9223372036854775808 ≤ f ∧ f ≤ 9223372036854775807
def ActOk : Prop := ∀ (a : TxA) (w : World), Few a.T → Calls Try.prog 55 #[.agg a.cells.toArray] w fun e w' => e = .returned (.int .i64 (actF a.T : Nat)) ∧ Below w.heap.size w w'
def ConvOk : Prop := ∀ (a : TxA) (w : World), Few a.T → Calls Try.prog 28 #[.agg a.cells.toArray] w fun e w' => e = .returned (.int .i64 (convF a.T)) ∧ Below w.heap.size w w'
def PaysOk : Prop := ∀ (a : TxA) (f : Int) (w : World), Few a.T → isI64 f → Calls Try.prog 22 #[.agg a.cells.toArray, .int .i64 f] w fun e w' => e = .returned (.bool (paysF a.T f)) ∧ Below w.heap.size w w'
section
variable {P : Program}
theorem bmax {x y m : Int} (h : max x y = m) : ∀ W ts t, (Builtin.max_ ts t #[.int .i64 x, .int .i64 y]).run P W = .ok (.int .i64 m) W := fun W ts t => by
  rw [run_max_int2]
  congr 2
  split <;> omega
theorem bmin {x y m : Int} (h : min x y = m) : ∀ W ts t, (Builtin.min_ ts t #[.int .i64 x, .int .i64 y]).run P W = .ok (.int .i64 m) W := fun W ts t => by
  rw [run_min_int2]
  congr 2
  split <;> omega
end
theorem rHeld_f (f : Int) (w : World) : Calls Try.prog 29 #[.int .i64 f] w fun e w' => e = .returned (.int .i64 (heldF f)) ∧ Below w.heap.size w w' := by
  obtain ⟨x, hx⟩ : ∃ x, max f 0 = x := ⟨_, rfl⟩
  obtain ⟨y, hy⟩ : ∃ y, min x 2100000000000000 = y := ⟨_, rfl⟩
  have hr : heldF f = y := by unfold heldF; rw [hx, hy]
  have h1 := bmax (P := Try.prog) hx
  have h2 := bmin (P := Try.prog) hy
  rw [hr]
  clear hx hy hr
  go_enter Try.func29, Try.ntmps29
  go_wp2
  go_ret
  exact ⟨rfl, Below.refl _ _⟩
theorem rAct_f (a : TxA) (w : World) (hf : Few a.T) : Calls Try.prog 47 #[.agg a.cells.toArray] w fun e w' => e = .returned (.int .i64 (actF a.T : Nat)) ∧ Below w.heap.size w w' := by
  have hb : RowC (w.alloc (.cells a.cells.toArray 29)) w.heap.size 0 a.cells := RowC.of_blk (Blk.new _ _ _)
  have c1 := TxA.c1 hb
  have c2 := TxA.c2 hb
  have c4 := TxA.c4 hb
  have c5 := TxA.c5 hb
  have := hf.i; have := hf.o; have := hf.n; have := hf.t
  obtain ⟨x, hx⟩ : ∃ x : Nat, max a.T.ins.length a.T.outs.length = x := ⟨_, rfl⟩
  obtain ⟨y, hy⟩ : ∃ y : Nat, max a.T.nulls.length a.T.notes.length = y := ⟨_, rfl⟩
  have h1 := bmax (P := Try.prog) (show max (a.T.ins.length : Int) (a.T.outs.length : Int) = (x : Int) by omega)
  have h2 := bmax (P := Try.prog) (show max (a.T.nulls.length : Int) (a.T.notes.length : Int) = (y : Int) by omega)
  obtain ⟨z, hz⟩ : ∃ z : Nat, x + y = z := ⟨_, rfl⟩
  have hr : actF a.T = z := by unfold actF; rw [hx, hy, hz]
  have h3 : (x : Int) + (y : Int) = (z : Int) := by omega
  have h4 : IntKind.i64.wrap (z : Int) = (z : Int) := by rw [IntKind.wrap_i64]; omega
  have B1 := Lib.hid ((Below.refl w.heap.size w).alloc (Nat.le_refl _) (.cells a.cells.toArray 29))
  rw [hr]
  clear hx hy hr hb hz this
  go_enter Try.func47, Try.ntmps47
  go_wp2
  go_ret
  exact ⟨rfl, B1.out⟩
theorem rConv_f (a : TxA) (w : World) (hf : Few a.T) : Calls Try.prog 30 #[.agg a.cells.toArray] w fun e w' => e = .returned (.int .i64 (convF a.T)) ∧ Below w.heap.size w w' := by
  have K1 := Lib.hid (Blk.new w 29 a.cells.toArray)
  have B1 := Lib.hid ((Below.refl w.heap.size w).alloc (Nat.le_refl _) (.cells a.cells.toArray 29))
  have HA := Lib.hid (fun W => rAct_f a W hf)
  have hd := hf.due
  obtain ⟨d, hdd⟩ : ∃ d : Nat, dueF a.T = d := ⟨_, rfl⟩
  have h1 := bmax (P := Try.prog) (show max ((actF a.T : Nat) : Int) 2 = (d : Int) by unfold dueF at hdd; omega)
  have hr : convF a.T = 5000 * (d : Int) := by unfold convF; rw [hdd]
  have h2 : IntKind.i64.wrap (5000 * (d : Int)) = 5000 * (d : Int) := by rw [IntKind.wrap_i64]; omega
  rw [hr]
  clear hd hdd hr hf
  go_enter Try.func30, Try.ntmps30
  go_wp2_with ((with_reducible refine at_load 1 ?_); refine tyTx.wpList_load rfl (.tmp 1) rfl w.heap.size 0 rfl a (RowC.of_blk K1.out) ?_)
  refine (HA.out _).mono ?_
  rintro e w1 ⟨rfl, b1⟩
  have B2 := Lib.hid (B1.out.trans (b1.mono B1.out.size))
  go_wp2_with fail
  go_ret
  exact ⟨rfl, B2.out⟩
theorem conv_pos {T : TxV} (h : Few T) : 10000 ≤ convF T ∧ convF T ≤ 1000000 := by have := h.due; unfold convF; omega
theorem rPays_f (a : TxA) (f : Int) (w : World) (hf : Few a.T) : Calls Try.prog 23 #[.agg a.cells.toArray, .int .i64 f] w fun e w' => e = .returned (.bool (paysF a.T f)) ∧ Below w.heap.size w w' := by
  have K1 := Lib.hid (Blk.new w 29 a.cells.toArray)
  have B1 := Lib.hid ((Below.refl w.heap.size w).alloc (Nat.le_refl _) (.cells a.cells.toArray 29))
  have HC := Lib.hid (fun W => rConv_f a W hf)
  have HH := Lib.hid (fun W => rHeld_f f W)
  obtain ⟨c, hc⟩ : ∃ c, convF a.T = c := ⟨_, rfl⟩
  obtain ⟨k, hk⟩ : ∃ k, heldF f = k := ⟨_, rfl⟩
  rw [hk] at HH
  rw [hc] at HC
  obtain ⟨q, hq⟩ : ∃ q, decide (c ≤ k) = q := ⟨_, rfl⟩
  have hr : paysF a.T f = q := by unfold paysF; rw [hc, hk, hq]
  rw [hr]
  clear hr hf hk hc
  go_enter Try.func23, Try.ntmps23
  go_wp2_with fail
  have RT := Lib.hid (show ∀ W, From (w.alloc (.cells a.cells.toArray 29)) W → RowC W w.heap.size 0 a.cells from fun W hC => RowC.of_blk (below_blk hC.below K1.out K1.out.lt))
  refine wp_region_from (by kernel_rfl) (by kernel_rfl) ?_
  repeat (first
    | go_big_quiet_skip
    | ((with_reducible refine at_qload 2 ?_); refine tyTx.wpQuiet_load (by rfl) (.tmp 2) rfl w.heap.size 0 rfl a RT.out ?_; simp only [Act.put, List.setIfInBounds_toArray, List.set_cons_succ, List.set_cons_zero])
    | (go_big_quiet_want; go_big_quiet_op; refine ⟨_, fun _ _ => by with_reducible rfl, ?_⟩; go_big_quiet_on)
    | go_big_quiet_step ((intro hC; first
      | (go_at_call 29; with_reducible exact (HH.out _).mono fun _ _ h => ⟨h.1, hC.call h.2⟩)
      | (go_at_call 30; with_reducible exact (HC.out _).mono fun _ _ h => ⟨h.1, hC.call h.2⟩))))
  refine wpQuiet_nil ?_
  intro w9 hC
  have B9 := Lib.hid (B1.out.trans (hC.below.mono B1.out.size))
  clear hC RT
  go_wp2_with fail
  go_ret
  exact ⟨rfl, B9.out⟩
end Go.Proofs.Ytpoejbfcioijhaa
