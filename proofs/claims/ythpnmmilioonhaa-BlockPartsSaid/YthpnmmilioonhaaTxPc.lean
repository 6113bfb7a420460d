/- The document's Read and Decode of a transaction. Written by genPc.py. -/
import Derived.Test.YthpnmmilioonhaaTxPa
import Derived.Test.YthpnmmilioonhaaTxD
namespace Go.Proofs.Ythpnmmilioonhaa
open Go.RowKit
theorem part_r : ∀ p : Nat, p ≤ 5 → ∀ (a : TxA) (l : List UInt8), l.length ≤ 1000000 → ∀ w : World, PtI p w a → Calls Try.prog 56 #[.agg a.cells.toArray, .int .i64 (p : Nat), .string ⟨l.toArray⟩] w (EndP p w (partR p a.T l))
  | 0, _, a, l, hs, w, h => part0_r a l hs w h
  | 1, _, a, l, hs, w, h => part1_r a l hs w h
  | 2, _, a, l, hs, w, h => part2_r a l hs w h
  | 3, _, a, l, hs, w, h => part3_r a l hs w h
  | 4, _, a, l, hs, w, h => part4_r a l hs w h
  | 5, _, a, l, hs, w, h => part5_r a l hs w h
  | n + 6, h, _, _, _, _, _ => absurd h (by omega)
theorem goR_step : ∀ p : Nat, p ≤ 5 → ∀ (T : TxV) (r : List UInt8), goR (6 - p) T r = match partR p T r with
    | .error e => .error e
    | .ok (T', r') => goR (6 - (p + 1)) T' r'
  | 0, _, _, _ => rfl
  | 1, _, _, _ => rfl
  | 2, _, _, _ => rfl
  | 3, _, _, _ => rfl
  | 4, _, _, _ => rfl
  | 5, _, _, _ => rfl
  | n + 6, h, _, _ => absurd h (by omega)
/-- what lies there while Read is at work: the answer's place, then the transaction -/
structure ReS (w0 : World) (a : TxA) (w : World) : Prop where
  below : Below w0.heap.size w0 w
  size : w0.heap.size + 2 ≤ w.heap.size
  k2 : ∃ cs : Array Value, cs.size = 38 ∧ Blk w w0.heap.size 44 cs
  k3 : Blk w (w0.heap.size + 1) 44 a.cells.toArray
section
variable {w0 w w' : World} {a a' : TxA} {p : Nat}
theorem ReS.call (h : ReS w0 a w) (b : Below w.heap.size w w') : ReS w0 a w' where
  below := h.below.trans (b.mono (by have := h.size; omega))
  size := Nat.le_trans h.size b.size
  k2 := by obtain ⟨cs, h1, h2⟩ := h.k2; exact ⟨cs, h1, below_blk b h2 (by have := h.size; omega)⟩
  k3 := below_blk b h.k3 (by have := h.size; omega)
theorem ReS.set (h : ReS w0 a w) (o : Only [w0.heap.size + 1] w w') (b : Blk w' (w0.heap.size + 1) 44 a'.cells.toArray) : ReS w0 a' w' where
  below := h.below.trans (o.below (by simp))
  size := by rw [o.size]; exact h.size
  k2 := by obtain ⟨cs, h1, h2⟩ := h.k2; exact ⟨cs, h1, o.blk h2 (by simp)⟩
  k3 := b
theorem PtI.from (h : PtI p w a) (b : Below w.heap.size w w') : PtI p w' a := ⟨h.to.from b, h.ins, h.outs, h.anc⟩
theorem PtI.only {g : Nat} {cs : Array Value} (h : PtI p w a) (o : Only [g] w w') (hg : Blk w g 44 cs) : PtI p w' a := ⟨h.to.only o hg, h.ins, h.outs, h.anc⟩
end
theorem PtI.zero (w : World) : PtI 0 w aZ := ⟨TO.zero w, fun _ => ⟨rfl, rfl, rfl⟩, fun _ => ⟨rfl, rfl, rfl⟩, fun _ => by rw [aZ_no]; rfl⟩
def rdX (x : Except Int (TxV × List UInt8)) : TxV × List UInt8 × Int := match x with
  | .error e => (noTx, [], e)
  | .ok (T, r) => (T, r, 0)
/-- what the document's Read answers -/
def EndRI (w : World) (x : TxV × List UInt8 × Int) (e : Ending) (w' : World) : Prop :=
  (∃ a : TxA, a.T = x.1 ∧ e = .returned (.tuple #[.agg a.cells.toArray, .string ⟨x.2.1.toArray⟩, .int .i64 x.2.2]) ∧ TO w' a) ∧ Below w.heap.size w w'
theorem EndRI.mk {w w' : World} {x : TxV × List UInt8 × Int} {e : Ending} (a : TxA) (h1 : a.T = x.1) (h2 : e = .returned (.tuple #[.agg a.cells.toArray, .string ⟨x.2.1.toArray⟩, .int .i64 x.2.2])) (h3 : TO w' a) (h4 : Below w.heap.size w w') : EndRI w x e w' := ⟨⟨a, h1, h2, h3⟩, h4⟩
set_option maxRecDepth 20000 in
set_option maxHeartbeats 4000000 in
theorem rRead_r (l : List UInt8) (hs : l.length ≤ 1000000) (w : World) :
    Calls Try.prog 36 #[.string ⟨l.toArray⟩] w (EndRI w (readTx l)) := by
  obtain ⟨X, hX⟩ : ∃ X, txR l = X := ⟨_, rfl⟩
  have HY := Lib.hid (show readTx l = rdX X by rw [← hX]; rfl)
  obtain ⟨Y, hY⟩ : ∃ Y, readTx l = Y := ⟨_, rfl⟩
  rw [hY] at HY ⊢
  have HX := Lib.hid (show goR 6 aZ.T l = X by rw [aZ_no, goR_tx]; exact hX)
  clear hX hY
  go_enter Try.func36, Try.ntmps36
  go_wp2_with (first
    | ((with_reducible refine at_build 10 ?_); refine wpList_built rfl 44 #[] rfl aZ.cells.toArray (by kernel_rfl) ?_)
    | ((with_reducible refine at_store 5 10 ?_); refine tyTx.wpList_store rfl (.tmp 5) (.tmp 10) rfl rfl (w.heap.size + 1) aZ rfl rfl 44 _ (blk_new _ _ (by simp)) rfl ?_; intro w1 o1 b1
       have ST0 := Lib.hid (ReS.mk (w0 := w) (a := aZ) (w := w1) ((((Below.refl w.heap.size w).alloc (Nat.le_refl _) _).alloc (by simp) _).trans (o1.below (by simp))) (by rw [o1.size]; simp) ⟨_, rfl, o1.blk ((Blk.new w _ _).alloc _) (by simp)⟩ b1)
       clear o1 b1))
  go_loopw [0, 6] (fun s i wr => ∃ (p : Nat) (r : List UInt8) (a : TxA), p ≤ 6 ∧ i = .int .i64 (p : Nat) ∧ s = .string ⟨r.toArray⟩ ∧ Hid (goR (6 - p) a.T r = X ∧ r.length ≤ 1000000) ∧ Hid (PtI p wr a) ∧ Hid (ReS w a wr)) (fun _ i _ => 6 - (intOf i).toNat)
  case atStart => exact ⟨0, l, aZ, by omega, rfl, rfl, Lib.hid ⟨HX.out, hs⟩, Lib.hid (PtI.zero _), ST0⟩
  case round =>
    clear ST0 HX hs
    obtain ⟨p, r, a, hp, rfl, rfl, hx, HI, ST⟩ := hrel
    by_cases h6 : p = 6
    · subst h6
      have HE := Lib.hid (show Y = (a.T, r, 0) by rw [HY.out, ← hx.out.1]; rfl)
      clear hx HY hp
      obtain ⟨cz, hz, kz⟩ := ST.out.k2
      have KZ := Lib.hid kz
      have HZ := Lib.hid hz
      have KA := Lib.hid ST.out.k3
      clear kz hz
      go_wp2_with (first
        | ((with_reducible refine at_load 5 ?_); refine tyTx.wpList_load rfl (.tmp 5) rfl (w.heap.size + 1) 0 rfl a (by simpa using RowC.of_blk KA.out) ?_)
        | ((with_reducible refine at_store 2 29 ?_); refine tyTx.wpList_store rfl (.tmp 2) (.tmp 29) rfl rfl w.heap.size a rfl rfl 44 cz KZ.out HZ.out ?_; intro wz oz bz))
      refine bodyPost_ret (results_cell_tmp2 rfl _ _ w.heap.size 44 _ (0, 0) _ rfl bz Try.underlying44 rfl (by rw [tyTx.arr]; kernel_rfl)) rfl ?_
      rw [HE.out]
      exact EndRI.mk a rfl rfl (HI.out.to.only oz KZ.out) (ST.out.below.trans (oz.below (by simp)))
    · have hp5 : p ≤ 5 := by omega
      have hlt : decide ((p : Int) < 6) = true := by simp; omega
      have hc := part_r p hp5 a r hx.out.2 wr HI.out
      have hst := goR_step p hp5 a.T r
      rw [hx.out.1] at hst
      cases hq : partR p a.T r with
      | error er =>
        have he0 : er ≠ 0 := by rcases errs_part p a.T r er hq with h | h | h <;> omega
        have hd : (er == 0) = false := beq_eq_false_iff_ne.mpr he0
        rw [hq] at hst hc
        have HE := Lib.hid (show Y = (noTx, [], er) by rw [HY.out, hst]; rfl)
        have HC := Lib.hid hc
        clear hq hc hst he0 hx HY HI h6 hp
        have KA := Lib.hid ST.out.k3
        go_wp2_with ((with_reducible refine at_load 5 ?_); refine tyTx.wpList_load rfl (.tmp 5) rfl (w.heap.size + 1) 0 rfl a (by simpa using RowC.of_blk KA.out) ?_)
        refine HC.out.mono ?_
        rintro e w1 ⟨b1, b, r', rfl⟩
        have ST' := Lib.hid (ST.out.call b1)
        clear b1 HC KA
        clear ST; have ST := ST'; clear ST'
        go_wp2_with (first
          | ((with_reducible refine at_store 7 20 ?_); refine tyTx.wpList_store rfl (.tmp 7) (.tmp 20) rfl rfl w1.heap.size b rfl rfl 44 _ (Blk.new w1 _ _) rfl ?_; intro w2 o2 b2
             have ST' := Lib.hid (ST.out.call (((Below.refl w1.heap.size w1).alloc (Nat.le_refl _) _).trans (o2.below (by simp))))
             clear b2 o2
             clear ST; have ST := ST'; clear ST'
             obtain ⟨cz, hz, kz⟩ := ST.out.k2
             have KZ := Lib.hid kz
             have HZ := Lib.hid hz
             clear kz hz)
          | ((with_reducible refine at_build 25 ?_); refine wpList_built rfl 44 #[] rfl aZ.cells.toArray (by kernel_rfl) ?_)
          | ((with_reducible refine at_store 2 25 ?_); refine tyTx.wpList_store rfl (.tmp 2) (.tmp 25) rfl rfl w.heap.size aZ rfl rfl 44 cz KZ.out HZ.out ?_; intro wz oz bz))
        refine bodyPost_ret (results_cell_tmp2 rfl _ _ w.heap.size 44 _ (0, 0) _ rfl bz Try.underlying44 rfl (by rw [tyTx.arr]; kernel_rfl)) rfl ?_
        rw [HE.out]
        exact EndRI.mk aZ aZ_no rfl (TO.zero _) (ST.out.below.trans (oz.below (by simp)))
      | ok x =>
        obtain ⟨T, r2⟩ := x
        have hs2 := Nat.le_trans (short_part p a.T r T r2 hq) hx.out.2
        rw [hq] at hst hc
        have HE := Lib.hid (show goR (6 - (p + 1)) T r2 = X from hst.symm)
        have HC := Lib.hid hc
        have HS := Lib.hid hs2
        clear hq hc hst hx HI h6 hp hs2
        have KA := Lib.hid ST.out.k3
        go_wp2_with ((with_reducible refine at_load 5 ?_); refine tyTx.wpList_load rfl (.tmp 5) rfl (w.heap.size + 1) 0 rfl a (by simpa using RowC.of_blk KA.out) ?_)
        refine HC.out.mono ?_
        rintro e w1 ⟨b1, b, hb, rfl, pi⟩
        have ST' := Lib.hid (ST.out.call b1)
        have PI := Lib.hid pi
        have HB := Lib.hid hb
        clear b1 HC KA pi hb
        clear ST; have ST := ST'; clear ST'
        go_wp2_with (first
          | ((with_reducible refine at_store 7 20 ?_); refine tyTx.wpList_store rfl (.tmp 7) (.tmp 20) rfl rfl w1.heap.size b rfl rfl 44 _ (Blk.new w1 _ _) rfl ?_; intro w2 o2 b2
             have B2 := Lib.hid (((Below.refl w1.heap.size w1).alloc (Nat.le_refl _) _).trans (o2.below (by simp)))
             have ST' := Lib.hid (ST.out.call B2.out)
             have PJ := Lib.hid (PI.out.from B2.out)
             have K7 := Lib.hid b2
             clear b2 o2 PI B2
             clear ST; have ST := ST'; clear ST')
          | ((with_reducible refine at_load 7 ?_); refine tyTx.wpList_load rfl (.tmp 7) rfl w1.heap.size 0 rfl b (by simpa using RowC.of_blk K7.out) ?_)
          | ((with_reducible refine at_store 5 27 ?_); refine tyTx.wpList_store rfl (.tmp 5) (.tmp 27) rfl rfl (w.heap.size + 1) b rfl rfl 44 _ ST.out.k3 (by rw [tyTx.arr]) ?_; intro w3 o3 b3
             have PK := Lib.hid (PJ.out.only o3 ST.out.k3)
             have ST' := Lib.hid (ST.out.set o3 b3)
             clear b3 o3 PJ K7
             clear ST; have ST := ST'; clear ST'))
        go_roundw
        case rel => exact ⟨p + 1, r2, b, by omega, by go_num, rfl, Lib.hid ⟨by rw [HB.out]; exact HE.out, HS.out⟩, PK, ST⟩
        case measure => simp [intOf]; omega
/-- what the document's Decode answers -/
def EndDI (w : World) (x : TxV × Int) (e : Ending) (w' : World) : Prop :=
  (∃ a : TxA, a.T = x.1 ∧ e = .returned (.tuple #[.agg a.cells.toArray, .int .i64 x.2]) ∧ TO w' a) ∧ Below w.heap.size w w'
end Go.Proofs.Ythpnmmilioonhaa
