/- tx.Read and Decode. Written by genRd.py. -/
import Derived.Test.YthpnmmilioonhaaTxV
namespace Go.Proofs.Ythpnmmilioonhaa
open Go.RowKit
theorem aZ_no : aZ.T = noTx := by
  unfold aZ txZero noTx zeroKey toU32 toI64
  rfl
theorem ok_no : OkTx noTx := ⟨Nat.zero_le _, Nat.zero_le _, Nat.zero_le _, Nat.zero_le _, fun _ => rfl⟩
theorem tl_no (w : World) : TL w aZ := ⟨.inl ⟨rfl, rfl, rfl⟩, .inl ⟨rfl, rfl, rfl⟩, .inl ⟨rfl, rfl, rfl⟩, .inl ⟨rfl, rfl, rfl⟩⟩
theorem readTx_ok (l : List UInt8) : OkTx (readTx l).1 := by
  unfold readTx
  cases h : txR l with
  | error e => exact ok_no
  | ok x => exact (good_tx.bwd _ _ _ h).1
theorem decTx_okk (l : List UInt8) : OkTx (decTx l).1 := by
  unfold decTx
  cases h : txR l with
  | error e => exact ok_no
  | ok x =>
    obtain ⟨T, r⟩ := x
    have h1 := (good_tx.bwd _ _ _ h).1
    simp only
    split
    · exact h1
    · exact ok_no
theorem litTx (cs : Array Value) (h : cs = aZ.cells.toArray) : cs.size = 38 := by rw [h, tyTx.arr]
theorem TL.below {w w' : World} {a : TxA} (h : TL w a) (hb : Below w.heap.size w w') : TL w' a := by
  have lb : ∀ {α : Type} {enc : α → List Value} {e : TypeId} {A : Option Addr} {c : Nat} {l : List α}, LB enc e w A c l → LB enc e w' A c l := by
    intro α enc e A c l h
    rcases h with h | ⟨b, h1, h2, h3⟩
    · exact .inl h
    · exact .inr ⟨b, h1, h2, below_blk hb h3 h3.lt⟩
  exact ⟨lb h.ins, lb h.outs, lb h.nulls, lb h.notes⟩
theorem TL.onlyX {w w' : World} {g : Nat} {a : TxA} (h : TL w a) {cs : Array Value} (ho : Only [g] w w') (hg : Blk w g 44 cs) : TL w' a := h.onlyT ho hg (by decide) (by decide) (by decide)
/-- what Read's answer is -/
def EndRd (w : World) (x : TxV × List UInt8 × Int) (e : Ending) (w' : World) : Prop :=
  (∃ a : TxA, a.T = x.1 ∧ e = .returned (.tuple #[.agg a.cells.toArray, .string ⟨x.2.1.toArray⟩, .int .i64 x.2.2]) ∧ TL w' a) ∧ Below w.heap.size w w'
set_option maxRecDepth 20000 in
set_option maxHeartbeats 1000000 in
theorem read_r (l : List UInt8) (hs : l.length ≤ 1000000) (w : World) :
    Calls Try.prog 54 #[.string ⟨l.toArray⟩] w (EndRd w (readTx l)) := by
  have hc := try_r l hs (w.heap.size + 1)
  have HRA := Lib.hid (fun c2 => (show Rb ((w.alloc (.cells c2 44)).alloc (.cells #[.string ⟨l.toArray⟩] 119)) (w.heap.size + 1) l from blk_new _ _ (by simp)))
  cases hq : txR l with
  | error er =>
    rw [show readTx l = (noTx, [], er) by unfold readTx; rw [hq]]
    have he0 : er ≠ 0 := by rcases errs_tx l er hq with h | h | h <;> omega
    have hd : (er == 0) = false := beq_eq_false_iff_ne.mpr he0
    rw [hq] at hc
    have HC := Lib.hid hc
    clear hq hc he0
    go_enter Try.func54, Try.ntmps54
    go_wp2_with fail
    refine (HC.out _ (HRA.out _)).mono ?_
    rintro e w1 ⟨rfl, px⟩
    have K2 := Lib.hid (px.blk ((Blk.new w 44 _).alloc _) (by omega))
    have B1 : Below w.heap.size w w1 := (((Below.refl _ _).alloc (Nat.le_refl _) _).alloc (by simp) _).trans (px.below (by omega) (by simp; omega))
    have BH := Lib.hid B1
    have l1 : w.heap.size < w1.heap.size := K2.out.lt
    clear px B1 HC HRA
    go_wp2_with (first
      | ((with_reducible refine at_store 6 14 ?_); refine tyTx.wpList_store rfl (.tmp 6) (.tmp 14) rfl rfl w1.heap.size aZ rfl rfl 44 _ (Blk.new w1 _ _) rfl ?_; intro w2 o2 b2)
      | ((with_reducible refine at_build 18 ?_); refine wpList_built rfl 44 #[] rfl aZ.cells.toArray (by kernel_rfl) ?_)
      | ((with_reducible refine at_store 2 18 ?_); refine tyTx.wpList_store rfl (.tmp 2) (.tmp 18) rfl rfl w.heap.size aZ rfl rfl 44 _ (o2.blk (K2.out.alloc _) (by simp; omega)) rfl ?_; intro w3 o3 b3))
    exact bodyPost_ret (results_cell_tmp2 rfl _ _ w.heap.size 44 _ (0, 0) _ rfl b3 Try.underlying44 rfl (by rw [tyTx.arr]; kernel_rfl)) rfl ⟨⟨aZ, aZ_no, rfl, tl_no _⟩, ((BH.out.alloc BH.out.size _).trans (o2.below (by simp; exact BH.out.size))).trans (o3.below (by simp))⟩
  | ok x =>
    obtain ⟨T, r⟩ := x
    rw [show readTx l = (T, r, 0) by unfold readTx; rw [hq]]
    rw [hq] at hc
    have HC := Lib.hid hc
    clear hq hc
    go_enter Try.func54, Try.ntmps54
    go_wp2_with fail
    refine (HC.out _ (HRA.out _)).mono ?_
    rintro e w1 ⟨a, rfl, rfl, tl, rb, px⟩
    have K2 := Lib.hid (px.blk ((Blk.new w 44 _).alloc _) (by omega))
    have B1 : Below w.heap.size w w1 := (((Below.refl _ _).alloc (Nat.le_refl _) _).alloc (by simp) _).trans (px.below (by omega) (by simp; omega))
    have BH := Lib.hid B1
    have l1 : w.heap.size + 1 < w1.heap.size := rb.lt
    have HTL := Lib.hid tl
    have HRB := Lib.hid rb
    clear px B1 HC HRA tl rb
    go_wp2_with ((with_reducible refine at_store 6 14 ?_); refine tyTx.wpList_store rfl (.tmp 6) (.tmp 14) rfl rfl w1.heap.size a rfl rfl 44 _ (Blk.new w1 _ _) rfl ?_; intro w2 o2 b2)
    have K6 := Lib.hid b2
    have TL2 := Lib.hid ((HTL.out.below ((Below.refl _ _).alloc (Nat.le_refl _) _)).onlyX o2 (Blk.new w1 44 _))
    replace K2 := Lib.hid (o2.blk (K2.out.alloc _) (by simp; omega))
    have RB2 := Lib.hid (o2.blk (HRB.out.alloc _) (by simp; omega))
    have B2 := Lib.hid ((BH.out.alloc BH.out.size _).trans (o2.below (by simp; exact BH.out.size)))
    clear b2 o2 HTL HRB BH
    refine wp_region_held_drew (S := fun w' => Below w.heap.size w w' ∧ (∃ cs : Array Value, cs.size = 38 ∧ Blk w' w.heap.size 44 cs) ∧ Blk w' w1.heap.size 44 a.cells.toArray ∧ Rb w' (w.heap.size + 1) r ∧ TL w' a) (by kernel_rfl) ⟨B2.out.drew, ⟨_, rfl, K2.out.drew⟩, K6.out.drew, RB2.out.drew, TL2.out.below (Below.refl _ _).drew⟩ ?_
    clear K2 K6 B2 RB2 TL2
    generalize w2.drew = wd at *
    intro hS0
    refine wpAnyH_take (i := 0) (v := .agg a.cells.toArray) rfl (by kernel_rfl) (by kernel_rfl) (by kernel_rfl) (fun _ _ _ h => h) (yieldsIf_load_row (by rfl) 44 (.tmp 6) rfl w1.heap.size rfl 44 a.cells.toArray _ (fun _ h => h.2.2.1) Try.underlying44 rfl (by rw [tyTx.arr]; kernel_rfl)) hS0 ?_
    simp only [Act.put, List.getElem_toArray, List.getElem_cons_zero, List.setIfInBounds_toArray, List.set_cons_succ, List.set_cons_zero]
    refine wpAnyH_take (i := 1) (v := .pointer (some ⟨w.heap.size + 1, 0, none⟩)) rfl (by kernel_rfl) (by kernel_rfl) (by kernel_rfl) (fun _ _ _ h => h) (Or.inl ⟨by rfl, fun W _ => by go_simp; try with_reducible rfl⟩) hS0 ?_
    simp only [Act.put, List.getElem_toArray, List.getElem_cons_zero, List.getElem_cons_succ, List.setIfInBounds_toArray, List.set_cons_succ, List.set_cons_zero]
    refine wpAnyH_take (i := 2) (v := .pointer (some ⟨w.heap.size + 1, 0, none⟩)) rfl (by kernel_rfl) (by kernel_rfl) (by kernel_rfl) (fun _ _ _ h => h) (Or.inl ⟨by rfl, fun W _ => by go_simp; try with_reducible rfl⟩) hS0 ?_
    simp only [Act.put, List.getElem_toArray, List.getElem_cons_zero, List.getElem_cons_succ, List.setIfInBounds_toArray, List.set_cons_succ, List.set_cons_zero]
    refine wpAnyH_take (i := 3) (v := .pointer (some ⟨w.heap.size + 1, 0, none⟩)) rfl (by kernel_rfl) (by kernel_rfl) (by kernel_rfl) (fun _ _ _ h => h) (Or.inl ⟨by rfl, fun W _ => by go_simp; try with_reducible rfl⟩) hS0 ?_
    simp only [Act.put, List.getElem_toArray, List.getElem_cons_zero, List.getElem_cons_succ, List.setIfInBounds_toArray, List.set_cons_succ, List.set_cons_zero]
    refine wpAnyH_take (i := 4) (v := .string ⟨r.toArray⟩) rfl (by kernel_rfl) (by kernel_rfl) (by kernel_rfl) (fun _ _ _ h => h) (Or.inl ⟨by rfl, fun W hW => by have hcell := hW.2.2.2.1.cell 0; go_simp; try with_reducible rfl⟩) hS0 ?_
    simp only [Act.put, List.getElem_toArray, List.getElem_cons_zero, List.getElem_cons_succ, List.setIfInBounds_toArray, List.set_cons_succ, List.set_cons_zero]
    obtain ⟨c1, h1, k1⟩ := hS0.2.1
    refine wpAnyH_ready (rs := [5]) (by kernel_rfl) (by simp) ?_
    refine AllReadyH.cons rfl (fun Kq hK => ?_) AllReadyH.nil
    refine step_store_arr rfl 44 (.tmp 2) (.tmp 20) rfl rfl w.heap.size a.cells.toArray rfl rfl 44 _ k1 (by rw [tyTx.arr]; kernel_rfl) (by rw [tyTx.arr, h1]) (by rw [List.all_toArray, List.all_eq_true]; exact tyTx.one _) ?_
    intro w3 o3 b3
    refine hK.out _ _ ⟨hS0.1.trans (o3.below (by simp)), ⟨_, tyTx.arr _, b3⟩, o3.blk hS0.2.2.1 (by simp; omega), o3.blk hS0.2.2.2.1 (by simp), hS0.2.2.2.2.onlyX o3 k1⟩ (fun hS1 => ?_)
    clear hK Kq
    refine wpAnyH_ready (rs := [6]) (by kernel_rfl) (by simp) ?_
    refine AllReadyH.cons rfl (fun Kq hK => ?_) AllReadyH.nil
    go_simp
    refine hK.out _ _ hS1 (fun _ => ?_)
    clear hK Kq
    refine wpAnyH_ready (rs := [7]) (by kernel_rfl) (by simp) ?_
    refine AllReadyH.cons rfl (fun Kq hK => ?_) AllReadyH.nil
    go_simp
    refine hK.out _ _ hS1 (fun _ => ?_)
    clear hK Kq
    refine wpAnyH_done (by kernel_rfl) ?_ _
    go_wp2_with fail
    exact bodyPost_ret (results_cell_tmp2 rfl _ _ w.heap.size 44 _ (0, 0) _ rfl b3 Try.underlying44 rfl (by rw [tyTx.arr]; kernel_rfl)) rfl ⟨⟨a, rfl, rfl, hS1.2.2.2.2⟩, hS1.1⟩
end Go.Proofs.Ythpnmmilioonhaa
