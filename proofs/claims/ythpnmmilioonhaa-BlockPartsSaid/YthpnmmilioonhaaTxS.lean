/- tx's reader: step of a count and of a key; count, key, point, out. -/
import Derived.Test.YthpnmmilioonhaaTxR
namespace Go.Proofs.Ythpnmmilioonhaa
open Go.RowKit
theorem Past.new {g k : Nat} {w w1 w2 : World} (h : Past g w w1) (o : Only [k] w1 w2) (hk : w.heap.size ≤ k) : Past g w w2 :=
  ⟨o.os.trans h.os, o.tape.trans h.tape, o.output.trans h.output, Nat.le_trans h.size (Nat.le_of_eq o.size.symm), fun i hi hg => (o.block i (by simp; omega)).trans (h.block i hi hg)⟩
def readR (l : List UInt8) : Except Int (Nat × List UInt8) := match readF l with
  | (n, r, e) => if e = 0 then .ok (n, r) else .error e
theorem readR_f (l : List UInt8) : (∃ er, er ≠ 0 ∧ readF l = (0, [], er) ∧ readR l = .error er) ∨ ∃ n r, readF l = (n, r, 0) ∧ readR l = .ok (n, r) ∧ n < 2 ^ 64 := by
  unfold readR
  rcases readF_cases l with ⟨n, r, h, _, hn⟩ | h | h
  · exact .inr ⟨n, r, h, by rw [h]; rfl, hn⟩
  · exact .inl ⟨30, by decide, h, by rw [h]; rfl⟩
  · exact .inl ⟨31, by decide, h, by rw [h]; rfl⟩
theorem stepC_any (l : List UInt8) (hs : l.length ≤ 1000000) (g : Nat) (w : World) (hr : Rb w g l) :
    Calls Try.prog 94 #[.pointer (some ⟨g, 0, none⟩), .func (.func 26) #[] #[]] w (EndR VU g w (readR l)) := by
  have hc : w.cell? ⟨g, 0, none⟩ = some (.string ⟨l.toArray⟩) := hr.cell 0
  have HR := Lib.hid hr
  have hC : Calls Try.prog 26 #[.string ⟨l.toArray⟩] w fun e w' => e = .returned (getV (readF l)) ∧ Below w.heap.size w w' := read_any ⟨l.toArray⟩ (by rw [mkb_size]; exact hs) w
  clear hr
  rcases readR_f l with ⟨er, h0, hf, hg⟩ | ⟨n, r, hf, hg, hn⟩
  · rw [hf] at hC
    rw [hg]
    have HC := Lib.hid hC
    have hd : (er == 0) = false := beq_eq_false_iff_ne.mpr h0
    clear hf hg hC h0
    go_enter Try.func94, Try.ntmps94
    go_wp2_with fail
    refine HC.out.mono ?_
    rintro e w1 ⟨rfl, b1⟩
    have P1 := Lib.hid (Past.of_below (g := g) b1)
    clear hc HC b1 HR
    unfold getV
    go_wp2
    exact ⟨rfl, rfl, P1.out⟩
  · rw [hf] at hC
    rw [hg]
    have HC := Lib.hid hC
    clear hf hg hC hn
    go_enter Try.func94, Try.ntmps94
    go_wp2_with fail
    refine HC.out.mono ?_
    rintro e w1 ⟨rfl, b1⟩
    have K1 := Lib.hid (below_blk b1 HR.out HR.out.lt)
    have P1 := Lib.hid (Past.of_below (g := g) b1)
    clear hc HC b1 HR
    unfold getV
    have kc := K1.out.cell 0
    have kz := K1.out.frozen 0
    go_wp2_with ((with_reducible refine at_store 25 23 ?_); refine wpList_store_blk rfl 9 (.tmp 25) (.tmp 23) rfl rfl g (.string ⟨r.toArray⟩) rfl rfl rfl 119 _ K1.out (by kernel_rfl) ?_; intro w2 o2 b2)
    go_ret
    exact ⟨_, rfl, rfl, b2, P1.out.trans (Past.of_only o2)⟩
theorem count_r (l : List UInt8) (hs : l.length ≤ 1000000) (g : Nat) (w : World) (hr : Rb w g l) :
    Calls Try.prog 86 #[.pointer (some ⟨g, 0, none⟩)] w (EndR VI g w (numR l)) := by
  have hG := stepC_any l hs g w hr
  clear hr
  rcases readR_f l with ⟨er, h0, hf, hg⟩ | ⟨n, r, hf, hg, hn⟩
  · rw [show numR l = .error er by unfold numR; rw [hf]; exact if_neg h0]
    rw [hg] at hG
    have HG := Lib.hid hG
    clear hf hg hG h0
    go_enter Try.func86, Try.ntmps86
    go_wp2_with fail
    refine HG.out.mono ?_
    rintro e w1 ⟨rfl, p1⟩
    exact ⟨rfl, rfl, p1⟩
  · rw [hg] at hG
    have HG := Lib.hid hG
    by_cases h40 : 40 < n
    · rw [show numR l = .error 51 by unfold numR; rw [hf]; simp [h40]]
      have hd : decide ((40 : Int) < n) = true := by simp; omega
      clear hf hg hG hn h40
      go_enter Try.func86, Try.ntmps86
      go_wp2_with fail
      refine HG.out.mono ?_
      rintro e w1 ⟨v, rfl, rfl, b1, p1⟩
      have P1 := Lib.hid p1
      clear b1 p1
      go_wp2
      exact ⟨rfl, rfl, P1.out⟩
    · rw [show numR l = .ok (n, r) by unfold numR; rw [hf]; simp [h40]]
      have hd : decide ((40 : Int) < n) = false := by simp; omega
      have HW := Lib.hid (show wrap64 (n : Int) = n by unfold wrap64; omega)
      clear hf hg hG hn h40
      go_enter Try.func86, Try.ntmps86
      go_wp2_with fail
      refine HG.out.mono ?_
      rintro e w1 ⟨v, rfl, rfl, b1, p1⟩
      have P1 := Lib.hid p1
      have B1 := Lib.hid b1
      clear b1 p1
      go_wp2
      go_ret
      exact ⟨_, rfl, congrArg (Value.int .i64) HW.out, B1.out, P1.out⟩
theorem keyR_f (l : List UInt8) : (keyF l = (List.replicate 32 0, [], 30) ∧ keyR l = .error 30) ∨ ∃ (k : K32) (r : List UInt8), keyF l = (k.1, r, 0) ∧ keyR l = .ok (k, r) := by
  unfold keyF keyR
  by_cases h : l.length < 32
  · exact .inl ⟨by rw [if_pos h], by rw [dif_pos h]⟩
  · exact .inr ⟨⟨l.take 32, by rw [List.length_take]; omega⟩, l.drop 32, by rw [if_neg h], by rw [dif_neg h]⟩
set_option maxRecDepth 20000 in
theorem stepK_any (l : List UInt8) (hs : l.length ≤ 1000000) (g : Nat) (w : World) (hr : Rb w g l) :
    Calls Try.prog 95 #[.pointer (some ⟨g, 0, none⟩), .func (.func 20) #[] #[]] w (EndR VK g w (keyR l)) := by
  have hc : ∀ cs, (w.alloc (.cells cs 24)).cell? ⟨g, 0, none⟩ = some (.string ⟨l.toArray⟩) := fun cs => (hr.alloc _).cell 0
  have HR := Lib.hid (fun cs => (show Rb (w.alloc (.cells cs 24)) g l from hr.alloc _))
  have P0 := Lib.hid (fun cs => (show Past g w (w.alloc (.cells cs 24)) from Past.of_below ((Below.refl _ _).alloc (Nat.le_refl _) _)))
  have hC : ∀ w, Calls Try.prog 20 #[.string ⟨l.toArray⟩] w fun e w' => e = .returned (keyV (keyF l)) ∧ Below w.heap.size w w' := ckey_any ⟨l.toArray⟩ (by rw [mkb_size]; exact hs)
  have hg4 : g ≠ w.heap.size := Nat.ne_of_lt hr.lt
  clear hr
  rcases keyR_f l with ⟨hf, hg⟩ | ⟨k, r, hf, hg⟩
  · rw [hf] at hC
    rw [hg]
    have HC := Lib.hid hC
    clear hf hg hC
    go_enter Try.func95, Try.ntmps95
    go_wp2_with fail
    refine (HC.out _).mono ?_
    rintro e w1 ⟨rfl, b1⟩
    have P1 := Lib.hid ((P0.out _).trans (Past.of_below (g := g) b1))
    clear hc HC b1 HR
    unfold keyV
    go_wp2_with ((with_reducible refine at_store 5 15 ?_); refine wpList_store_arr rfl 24 (.tmp 5) (.tmp 15) rfl rfl w1.heap.size (bytesA (List.replicate 32 0)) rfl rfl 24 _ (Blk.new w1 _ _) (sz32 _ rep32) (by rw [bytesA_size, rep32]; rfl) (bytesA_one _) ?_; intro w2 o2 b2; have P2 := Lib.hid (P1.out.trans (Past.of_below (((Below.refl _ _).alloc (Nat.le_refl _) _).trans (o2.below (by simp))))); clear b2 o2)
    exact ⟨rfl, rfl, P2.out⟩
  · rw [hf] at hC
    rw [hg]
    have HC := Lib.hid hC
    clear hf hg hC
    go_enter Try.func95, Try.ntmps95
    go_wp2_with fail
    refine (HC.out _).mono ?_
    rintro e w1 ⟨rfl, b1⟩
    have P1 := Lib.hid ((P0.out _).trans (Past.of_below (g := g) b1))
    have K1 := Lib.hid (below_blk b1 (HR.out _) (HR.out _).lt)
    have K4 := Lib.hid (below_blk b1 (Blk.new w 24 _) (by simp))
    have l4 : w.heap.size < w1.heap.size := K4.out.lt
    have lg : g < w1.heap.size := K1.out.lt
    clear hc HC b1 HR
    unfold keyV
    go_wp2_with (first
      | ((with_reducible refine at_store 5 15 ?_); refine wpList_store_arr rfl 24 (.tmp 5) (.tmp 15) rfl rfl w1.heap.size (bytesA k.1) rfl rfl 24 _ (Blk.new w1 _ _) (sz32 _ k.2) (by rw [bytesA_size, k.2]; rfl) (bytesA_one _) ?_; intro w2 o2 b2
         have P2 := Lib.hid (P1.out.trans (Past.of_below (g := g) (((Below.refl _ _).alloc (Nat.le_refl _) _).trans (o2.below (by simp)))))
         have K5 := Lib.hid b2
         replace K1 := Lib.hid (o2.blk (K1.out.alloc _) (by simp; omega))
         replace K4 := Lib.hid (o2.blk (K4.out.alloc _) (by simp; omega))
         have kc := K1.out.cell 0
         have kz := K1.out.frozen 0
         clear b2 o2)
      | ((with_reducible refine at_store 25 23 ?_); refine wpList_store_blk rfl 9 (.tmp 25) (.tmp 23) rfl rfl g (.string ⟨r.toArray⟩) rfl rfl rfl 119 _ K1.out (by kernel_rfl) ?_; intro w3 o3 b3
         have P3 := Lib.hid (P2.out.trans (Past.of_only o3))
         replace K5 := Lib.hid (o3.blk K5.out (by simp; omega))
         replace K4 := Lib.hid (o3.blk K4.out (by simp; omega))
         have K1' := Lib.hid b3
         clear b3 o3)
      | ((with_reducible refine at_load 5 ?_); refine tyKy.wpList_load rfl (.tmp 5) rfl w1.heap.size 0 rfl k (by simpa [encK] using RowC.of_blk K5.out) ?_)
      | ((with_reducible refine at_store 4 26 ?_); refine wpList_store_arr rfl 24 (.tmp 4) (.tmp 26) rfl rfl w.heap.size (encK k).toArray rfl rfl 24 _ K4.out (tyKy.arrS _) (by rw [tyKy.arr]; rfl) (tyKy.arr1 _) ?_; intro w4 o4 b4
         have P4 := Lib.hid (P3.out.new o4 (Nat.le_refl _))
         replace K1 := Lib.hid (o4.blk K1'.out (by simp; omega))
         have K4' := Lib.hid b4
         clear b4 o4))
    exact bodyPost_ret (results_cell_row rfl _ _ w.heap.size 24 _ (0, 0) _ rfl K4'.out Try.underlying24 rfl (tyKy.arrS _)) rfl ⟨_, rfl, rfl, K1.out, P4.out⟩
end Go.Proofs.Ythpnmmilioonhaa
