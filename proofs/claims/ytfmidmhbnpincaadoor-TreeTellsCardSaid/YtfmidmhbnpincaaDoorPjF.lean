/- The project's Of. Written by genPF.py. -/
import Derived.Test.YtfmidmhbnpincaaDoorPjD
namespace Go.Proofs.YtfmidmhbnpincaaDoor
open Go.RowKit
theorem RowTy.slice_mid32 {α : Type} {enc : α → List Value} {k : Nat} {P : Program} {t e : TypeId} (T : RowTy P t e enc k) (w : World) (A : Option Addr) (n c i j : Nat) (hi : i ≤ j) (hj : j ≤ c) :
    (Instr.slice t (.slice A n c) (some (.int .u32 (i : Int))) (some (.int .u32 (j : Int))) none).run P w = .ok (.slice (cutA k c i A) (j - i) (c - i)) w := by
  have he : P.elem t = e := by simp [Program.elem, T.slice]
  rw [run_slice_lh w t A n c (by rw [he]; exact T.slice) .u32 .u32 i j (by omega) (by omega) (by omega), he, T.sizeOf]
  simp only [Result.andThen_ok, sliced, Int.toNat_natCast, cutA]
theorem of_facts2 (l : List K32) (n : Nat) (hl : l.length ≤ 100) (hb : bitN l.length n = true) :
    ∃ q fr tq : Nat, 2 ^ n = q ∧ ptK l n = atK n ((l.drop fr).take q) ∧ tq ≤ l.length ∧ fr + q = tq ∧ n < 20 ∧ (l.length : Int) / 2 ^ (n + 1) * 2 ^ (n + 1) % 4294967296 = (fr : Int) ∧ IntKind.u32.wrap ((2 : Int) ^ n) = (q : Int) ∧ IntKind.u32.wrap ((fr : Int) + q) = (tq : Int) := by
  have hp : ptK l n = atK n ((l.drop (l.length - l.length % 2 ^ (n + 1))).take (2 ^ n)) := by
    show partOf pairK zeroKey l n = _
    unfold partOf
    rw [if_pos hb]
  have hm := mod_bit l.length n
  rw [hb, if_pos rfl] at hm
  have hmle := mod_le' l.length (n + 1)
  have hdm := Nat.div_add_mod' l.length (2 ^ (n + 1))
  have hn20 : n < 20 := by
    rcases Nat.lt_or_ge n 20 with h | h
    · exact h
    · have h1 : 2 ^ 20 ≤ 2 ^ n := Nat.pow_le_pow_right (by decide) h
      have h2 : (100 : Nat) < 2 ^ 20 := by decide
      omega
  have e1 : (l.length : Int) / 2 ^ (n + 1) * 2 ^ (n + 1) = ((l.length / 2 ^ (n + 1) * 2 ^ (n + 1) : Nat) : Int) := by norm_cast
  have e2 : (2 : Int) ^ n = ((2 ^ n : Nat) : Int) := by norm_cast
  rw [e1, e2]
  clear hb
  generalize l.length / 2 ^ (n + 1) * 2 ^ (n + 1) = f at hdm e1 ⊢
  generalize l.length % 2 ^ (n + 1) = r at hm hmle hdm hp
  generalize l.length % 2 ^ n = r2 at hm
  generalize 2 ^ n = q at hm hp e2 ⊢
  clear e1 e2
  refine ⟨q, l.length - r, l.length - r + q, rfl, hp, by omega, rfl, hn20, by omega, ?_, ?_⟩
  · rw [IntKind.wrap_u32']; omega
  · rw [IntKind.wrap_u32']; omega
set_option maxRecDepth 100000 in
set_option maxHeartbeats 2000000 in
theorem part_any (A : Option Addr) (c : Nat) (l : List K32) (n : Nat) (hn : n < 32) (hl : l.length ≤ 100) (hb : bitN l.length n = true) (gn gl : Nat) (w : World)
    (hN : Blk w gn 22 #[.int .u32 l.length]) (hL : Blk w gl 28 #[.slice A l.length c]) (hrow : RowIn encK 32 w w.heap.size A c l) (hR : Roots w) :
    Calls Tryd.prog 25 #[.int .i64 n, .pointer (some ⟨gn, 0, none⟩), .pointer (some ⟨gl, 0, none⟩)] w fun e w' => e = .returned (.agg (encK (ptK l n)).toArray) ∧ Below w.heap.size w w' := by
  have HR := Lib.hid hR
  obtain ⟨q, fr, tq, hq, hpt, hfq, hto, hn20, h1, h2, h3⟩ := of_facts2 l n hl hb
  have hle := hrow.le
  have hsl : ∀ W, (Instr.slice 28 (.slice A l.length c) (some (.int .u32 (fr : Int))) (some (.int .u32 (tq : Int))) none).run Tryd.prog W = .ok (.slice (cutA 32 c fr A) q (c - fr)) W := fun W => by
    have := tyKy.slice_mid32 W A l.length c fr tq (by omega) (by omega)
    rwa [show tq - fr = q by omega] at this
  have hlen : ((l.drop fr).take q).length = q := by rw [List.length_take, List.length_drop]; omega
  have HW := Lib.hid (show ∀ W, Below w.heap.size w W → Calls Tryd.prog 26 #[.slice (cutA 32 c fr A) q (c - fr)] W fun e w' => e = .returned (.agg (encK (ptK l n)).toArray) ∧ Below W.heap.size W w' from fun W hbw => by
    have := pWhole_r n (by omega) (cutA 32 c fr A) (c - fr) ((l.drop fr).take q) W ((((hrow.below hbw).more hbw.size).drop encK_len fr (by omega)).take encK_len q) (by rw [hlen, hq]) (hR.on _ hbw)
    rwa [hlen, ← hpt] at this)
  have hge : (0 : Int) ≤ (n : Int) := by omega
  have hi1 : (n : Int) < 32 := by omega
  have hi2 : (0 : Int) ≤ (n : Int) + 1 := by omega
  have hw1 : IntKind.i64.wrap ((n : Int) + 1) = (n : Int) + 1 := by rw [IntKind.wrap_i64]; omega
  have c1 : ∀ ob, (w.alloc ob).cell? ⟨gn, 0, none⟩ = some (.int .u32 l.length) := fun ob => (hN.alloc ob).cell 0
  have CL := Lib.hid (show ∀ ob, (w.alloc ob).cell? ⟨gl, 0, none⟩ = some (.slice A l.length c) from fun ob => (hL.alloc ob).cell 0)
  have GL := Lib.hid hL.lt
  obtain ⟨N, hN'⟩ : ∃ N, l.length = N := ⟨_, rfl⟩
  obtain ⟨kc, hkc⟩ : ∃ kc, ptK l n = kc := ⟨_, rfl⟩
  rw [hkc] at HW ⊢
  rw [hN'] at hsl h1 c1 CL
  clear hrow hle hlen hfq hto hpt hkc hq hl hb hN hL hR hN'
  go_enter Tryd.func25, Tryd.ntmps25
  go_wp2_with fail
  rw [h1]
  have B0 := Lib.hid (show Below w.heap.size w (w.alloc (.cells (encK zeroKey).toArray 24)) from (Below.refl _ _).alloc (Nat.le_refl _) _)
  have R0 := Lib.hid (Blk.new w 24 (encK zeroKey).toArray)
  have C0 := Lib.hid (CL.out (.cells (encK zeroKey).toArray 24))
  obtain ⟨W0, hW0⟩ : ∃ W0, (w.alloc (.cells (encK zeroKey).toArray 24)) = W0 := ⟨_, rfl⟩
  rw [hW0] at B0 R0 C0
  change Code.wp _ _ _ _ (w.alloc (.cells (encK zeroKey).toArray 24))
  rw [hW0]
  clear hW0 CL c1
  have B0d := Lib.hid (show Below w.heap.size w W0.drew from B0.out.drew)
  refine wp_region_held_drew (S := fun W => W.cell? ⟨gl, 0, none⟩ = some (.slice A N c)) (by kernel_rfl) C0.out ?_
  intro hS
  refine wpAnyH_take (i := 0) (v := .slice A N c) rfl (by kernel_rfl) (by kernel_rfl) (by kernel_rfl) (fun _ _ _ h => h) (Or.inl ⟨by rfl, fun W hSW => by have hSW2 : W.cell? ⟨gl, 0, none⟩ = some (.slice A N c) := hSW; go_simp⟩) hS ?_
  simp only [Act.put, List.getElem_toArray, List.getElem_cons_zero, List.setIfInBounds_toArray, List.set_cons_succ, List.set_cons_zero]
  refine wpAnyH_take (i := 1) (v := .int .u32 fr) rfl (by kernel_rfl) (by kernel_rfl) (by kernel_rfl) (fun _ _ _ h => h) (Or.inl ⟨by rfl, fun W _ => by go_simp; try with_reducible rfl⟩) hS ?_
  simp only [Act.put, List.getElem_toArray, List.getElem_cons_zero, List.getElem_cons_succ, List.setIfInBounds_toArray, List.set_cons_succ, List.set_cons_zero]
  refine wpAnyH_take (i := 2) (v := .int .u32 fr) rfl (by kernel_rfl) (by kernel_rfl) (by kernel_rfl) (fun _ _ _ h => h) (Or.inl ⟨by rfl, fun W _ => by go_simp; try with_reducible rfl⟩) hS ?_
  simp only [Act.put, List.getElem_toArray, List.getElem_cons_zero, List.getElem_cons_succ, List.setIfInBounds_toArray, List.set_cons_succ, List.set_cons_zero]
  refine wpAnyH_take (i := 3) (v := .int .i64 n) rfl (by kernel_rfl) (by kernel_rfl) (by kernel_rfl) (fun _ _ _ h => h) (Or.inl ⟨by rfl, fun W _ => by go_simp; try with_reducible rfl⟩) hS ?_
  simp only [Act.put, List.getElem_toArray, List.getElem_cons_zero, List.getElem_cons_succ, List.setIfInBounds_toArray, List.set_cons_succ, List.set_cons_zero]
  refine wpAnyH_take (i := 4) (v := .int .u32 q) rfl (by kernel_rfl) (by kernel_rfl) (by kernel_rfl) (fun _ _ _ h => h) (Or.inl ⟨by rfl, fun W _ => by go_simp; try with_reducible rfl⟩) hS ?_
  simp only [Act.put, List.getElem_toArray, List.getElem_cons_zero, List.getElem_cons_succ, List.setIfInBounds_toArray, List.set_cons_succ, List.set_cons_zero]
  refine wpAnyH_take (i := 5) (v := .int .u32 tq) rfl (by kernel_rfl) (by kernel_rfl) (by kernel_rfl) (fun _ _ _ h => h) (Or.inl ⟨by rfl, fun W _ => by go_simp; try with_reducible rfl⟩) hS ?_
  simp only [Act.put, List.getElem_toArray, List.getElem_cons_zero, List.getElem_cons_succ, List.setIfInBounds_toArray, List.set_cons_succ, List.set_cons_zero]
  refine wpAnyH_take (i := 6) (v := .slice (cutA 32 c fr A) q (c - fr)) rfl (by kernel_rfl) (by kernel_rfl) (by kernel_rfl) (fun _ _ _ h => h) (Or.inl ⟨by rfl, fun W _ => by go_simp; try with_reducible rfl⟩) hS ?_
  simp only [Act.put, List.getElem_toArray, List.getElem_cons_zero, List.getElem_cons_succ, List.setIfInBounds_toArray, List.set_cons_succ, List.set_cons_zero]
  refine wpAnyH_ready (rs := [7]) (by kernel_rfl) (by simp) ?_
  refine AllReadyH.cons rfl (fun Kq hK => ?_) AllReadyH.nil
  go_simp
  with_reducible refine (HW.out _ B0d.out).mono ?_
  rintro e x1 ⟨rfl, b1⟩
  have B1 := Lib.hid (B0d.out.trans (b1.mono B0d.out.size))
  have R1 := Lib.hid (below_blk b1 R0.out R0.out.lt)
  have C1 := Lib.hid (show x1.cell? ⟨gl, 0, none⟩ = some (.slice A N c) from by rw [b1.cell (show gl < W0.drew.heap.size by have := GL.out; have := B0d.out.size; omega)]; exact C0.out)
  refine hK.out _ _ C1.out (fun hS => ?_)
  clear hK Kq b1
  refine wpAnyH_ready (rs := [8]) (by kernel_rfl) (by simp) ?_
  refine AllReadyH.cons rfl (fun Kq hK => ?_) AllReadyH.nil
  refine tyKc.step_store rfl (.tmp 4) (.tmp 20) rfl rfl w.heap.size kc rfl rfl 24 _ R1.out (by rw [tyKc.arr]) ?_
  intro w4 o4 b4
  have B4 := Lib.hid (B1.out.trans (o4.below (by simp)))
  refine hK.out _ _ (by rw [o4.cell (by have := GL.out; simp; omega)]; exact C1.out) (fun _ => ?_)
  clear hK Kq hS
  refine wpAnyH_done (by kernel_rfl) ?_ _
  go_wp2_with fail
  exact bodyPost_ret (results_cell1 rfl _ _ w.heap.size 24 _ (0, 0) _ rfl b4 Tryd.underlying24 rfl (by rw [tyKc.arr]; kernel_rfl)) rfl ⟨rfl, B4.out⟩
end Go.Proofs.YtfmidmhbnpincaaDoor
