/- The project's nulls: what the closures leave, the loop, Spend, Undo, Free. Written by genNuA.py. -/
import Derived.Test.YtklfbconbkbmpaaNulR
import Derived.Test.YtklfbconbkbmpaaLKTwice
namespace Go.Proofs.Ytklfbconbkbmpaa
open Go.RowKit
/-- all is as it was but block g -/
structure Nf (g : Nat) (w W : World) : Prop where
  os : W.os = w.os
  tape : W.tape = w.tape
  output : W.output = w.output
  size : w.heap.size ≤ W.heap.size
  block : ∀ b, b < w.heap.size → b ≠ g → W.heap[b]? = w.heap[b]?
section
variable {g : Nat} {w W W' : World}
theorem Nf.refl (g : Nat) (w : World) : Nf g w w := ⟨rfl, rfl, rfl, Nat.le_refl _, fun _ _ _ => rfl⟩
theorem Nf.call (h : Nf g w W) (hb : Below W.heap.size W W') : Nf g w W' := ⟨hb.os.trans h.os, hb.tape.trans h.tape, hb.output.trans h.output, Nat.le_trans h.size hb.size, fun b hlt hd => (hb.block b (Nat.lt_of_lt_of_le hlt h.size)).trans (h.block b hlt hd)⟩
theorem Nf.trans (h : Nf g w W) (k : Nf g W W') : Nf g w W' := ⟨k.os.trans h.os, k.tape.trans h.tape, k.output.trans h.output, Nat.le_trans h.size k.size, fun b hlt hd => (k.block b (Nat.lt_of_lt_of_le hlt h.size) hd).trans (h.block b hlt hd)⟩
theorem Nf.only (h : Nf g w W) (o : Only [g] W W') : Nf g w W' := ⟨o.os.trans h.os, o.tape.trans h.tape, o.output.trans h.output, Nat.le_trans h.size (Nat.le_of_eq o.size.symm), fun b hlt hd => (o.block b (by simpa using hd)).trans (h.block b hlt hd)⟩
theorem Nf.below {B : Nat} (h : Nf g w W) (hg : B ≤ g) (hB : B ≤ w.heap.size) : Below B w W := ⟨h.os, h.tape, h.output, h.size, fun b hlt => h.block b (by omega) (by omega)⟩
end
theorem row_ne_one {w : World} {g g' o : Nat} {t : TypeId} {v : Value} {l : List K32} (hb : Blk w g t #[v]) (hc : RowC w g' o (cellsOf encK l)) (hn : l ≠ []) : g' ≠ g := by
  rintro rfl
  have hlen : (cellsOf encK l).length = l.length * 32 := cellsOf_len encK_len l
  have hp : 0 < l.length := List.length_pos_iff.2 hn
  have h1 := hc 1 _ (List.getElem?_eq_getElem (by omega))
  rw [hb.cell, Array.getElem?_eq_none (by simp)] at h1
  cases h1
theorem row_nf {w W : World} {B c g : Nat} {A : Option Addr} {t : TypeId} {v : Value} {l : List K32} (h : RowIn encK 32 w B A c l) (hB : B ≤ w.heap.size) (hb : Blk w g t #[v]) (f : Nf g w W) : RowIn encK 32 W B A c l :=
  ⟨h.le, h.max, fun hn => by
    obtain ⟨g', o, e, hg, hc⟩ := h.cells hn
    exact ⟨g', o, e, hg, fun j u hj => (World.cell?_of_block (w := w) (a := ⟨g', o + j, none⟩) (f.block g' (by omega) (row_ne_one hb hc hn))).trans (hc j u hj)⟩⟩
/-- block g holds a slice that reads as s -/
def SetN (g : Nat) (s : List K32) (W : World) : Prop := ∃ A c, Blk W g 22 #[.slice A s.length c] ∧ RowIn encK 32 W W.heap.size A c s
theorem SetN.call {g : Nat} {s : List K32} {W W' : World} (h : SetN g s W) (hb : Below W.heap.size W W') : SetN g s W' :=
  let ⟨A, c, h1, h2⟩ := h; ⟨A, c, below_blk hb h1 h1.lt, (h2.below hb).more hb.size⟩
theorem SetN.other {g b : Nat} {s : List K32} {W W' : World} (h : SetN g s W) (hb : b = W.heap.size) (ob : Obj) (o : Only [b] (W.alloc ob) W') : SetN g s W' :=
  h.call (((Below.refl _ _).alloc (Nat.le_refl _) ob).trans (o.below (by simp [hb])))
set_option maxRecDepth 20000 in
set_option maxHeartbeats 2000000 in
theorem nput_any (g : Nat) (s : List K32) (x : K32) (w : World) (hs : SetN g s w) (hn : s.length ≤ 10000) :
    Calls Try.prog 19 #[.agg (encK x).toArray, .pointer (some ⟨g, 0, none⟩)] w fun e w' => e = .returned (.bool (!(decide (x ∈ s)))) ∧ SetN g (insK x s) w' ∧ Nf g w w' := by
  obtain ⟨A, c, hb, hr⟩ := hs
  have B0 : Below w.heap.size w (w.alloc (.cells (encK x).toArray 29)) := (Below.refl _ _).alloc (Nat.le_refl _) _
  have K1 := Lib.hid (Blk.new w 29 (encK x).toArray)
  have HI := insert_in A c s x _ (by omega) (w.alloc (.cells (encK x).toArray 29)) (Nat.le_refl _) ((hr.below B0).more B0.size)
  rw [← encK_arr] at HI
  have HC := Lib.hid HI
  have HB := Lib.hid (hb.alloc (.cells (encK x).toArray 29))
  have hc1 : (w.alloc (.cells (encK x).toArray 29)).cell? ⟨g, 0, none⟩ = some (.slice A s.length c) := (hb.alloc _).cell 0
  have HN := Lib.hid ((Nf.refl g w).call B0)
  obtain ⟨r, hrr⟩ : ∃ r, (!(decide (x ∈ s))) = r := ⟨_, rfl⟩
  rw [hrr] at HC ⊢
  obtain ⟨L, hL⟩ : ∃ L, insK x s = L := ⟨_, rfl⟩
  rw [hL] at HC ⊢
  clear hrr hL HI B0 hb hr
  go_enter Try.func19, Try.ntmps19
  go_wp2_with (first
    | ((with_reducible refine at_load 2 ?_); refine tyKc.wpList_load rfl (.tmp 2) rfl w.heap.size 0 rfl x (RowC.of_blk K1.out) ?_)
    | (go_at_call 20; refine HC.out.mono ?_; rintro e w1 ⟨A1, c1, rfl, hr1, b1⟩; have HR1 := Lib.hid hr1; have HB1 := Lib.hid (below_blk b1 HB.out HB.out.lt); have HN1 := Lib.hid (HN.out.call b1); clear hr1 b1)
    | ((with_reducible refine at_store 1 8 ?_); refine wpList_store_blk rfl 22 (.tmp 1) (.tmp 8) rfl rfl g _ rfl rfl rfl 22 _ HB1.out (by kernel_rfl) ?_; intro w2 o2 b2))
  go_ret
  exact ⟨rfl, ⟨A1, c1, b2, by rw [o2.size]; exact row_nf HR1.out (Nat.le_refl _) HB1.out ((Nf.refl g w1).only o2)⟩, HN1.out.only o2⟩
theorem nput_any_enters : ∀ args w, (callFunc 19 args).run Try.prog w = .ok (.enter 19 args) w := enters_of Try.func19 (by kernel_rfl) rfl
set_option maxRecDepth 20000 in
set_option maxHeartbeats 2000000 in
theorem ntake_any (g : Nat) (s : List K32) (x : K32) (w : World) (hs : SetN g s w) (hn : s.length ≤ 10000) :
    Calls Try.prog 23 #[.agg (encK x).toArray, .pointer (some ⟨g, 0, none⟩)] w fun e w' => e = .returned (.bool (decide (x ∈ s))) ∧ SetN g (s.erase x) w' ∧ Nf g w w' := by
  obtain ⟨A, c, hb, hr⟩ := hs
  have B0 : Below w.heap.size w (w.alloc (.cells (encK x).toArray 29)) := (Below.refl _ _).alloc (Nat.le_refl _) _
  have K1 := Lib.hid (Blk.new w 29 (encK x).toArray)
  have HI := remove_in A c s x _ (by omega) (w.alloc (.cells (encK x).toArray 29)) (Nat.le_refl _) ((hr.below B0).more B0.size)
  rw [← encK_arr] at HI
  have HC := Lib.hid HI
  have HB := Lib.hid (hb.alloc (.cells (encK x).toArray 29))
  have hc1 : (w.alloc (.cells (encK x).toArray 29)).cell? ⟨g, 0, none⟩ = some (.slice A s.length c) := (hb.alloc _).cell 0
  have HN := Lib.hid ((Nf.refl g w).call B0)
  obtain ⟨r, hrr⟩ : ∃ r, (decide (x ∈ s)) = r := ⟨_, rfl⟩
  rw [hrr] at HC ⊢
  obtain ⟨L, hL⟩ : ∃ L, s.erase x = L := ⟨_, rfl⟩
  rw [hL] at HC ⊢
  clear hrr hL HI B0 hb hr
  go_enter Try.func23, Try.ntmps23
  go_wp2_with (first
    | ((with_reducible refine at_load 2 ?_); refine tyKc.wpList_load rfl (.tmp 2) rfl w.heap.size 0 rfl x (RowC.of_blk K1.out) ?_)
    | (go_at_call 24; refine HC.out.mono ?_; rintro e w1 ⟨A1, c1, rfl, hr1, b1⟩; have HR1 := Lib.hid hr1; have HB1 := Lib.hid (below_blk b1 HB.out HB.out.lt); have HN1 := Lib.hid (HN.out.call b1); clear hr1 b1)
    | ((with_reducible refine at_store 1 8 ?_); refine wpList_store_blk rfl 22 (.tmp 1) (.tmp 8) rfl rfl g _ rfl rfl rfl 22 _ HB1.out (by kernel_rfl) ?_; intro w2 o2 b2))
  go_ret
  exact ⟨rfl, ⟨A1, c1, b2, by rw [o2.size]; exact row_nf HR1.out (Nat.le_refl _) HB1.out ((Nf.refl g w1).only o2)⟩, HN1.out.only o2⟩
theorem ntake_any_enters : ∀ args w, (callFunc 23 args).run Try.prog w = .ok (.enter 23 args) w := enters_of Try.func23 (by kernel_rfl) rfl
/-- one behind the other, up to the first one that does not go -/
def runN (ok : List K32 → K32 → Bool) (nx : List K32 → K32 → List K32) : List K32 → List K32 → List K32 × Bool
  | s, [] => (s, true)
  | s, x :: l => if ok s x = true then runN ok nx (nx s x) l else (nx s x, false)
set_option maxRecDepth 20000 in
set_option maxHeartbeats 2000000 in
theorem nall_any (f g : Nat) (ok : List K32 → K32 → Bool) (nx : List K32 → K32 → List K32) (hx : ∀ s x, (nx s x).length ≤ s.length + 1) (ef : ∀ args w, (callFunc f args).run Try.prog w = .ok (.enter f args) w)
    (hp : ∀ s x W, SetN g s W → s.length ≤ 10000 → Calls Try.prog f (#[.agg (encK x).toArray] ++ #[.pointer (some ⟨g, 0, none⟩)]) W fun e w' => e = .returned (.bool (ok s x)) ∧ SetN g (nx s x) w' ∧ Nf g W w')
    (A : Option Addr) (c : Nat) (l s : List K32) (w : World) (hs : SetN g s w) (hl : RowIn encK 32 w w.heap.size A c l) (hsn : s.length ≤ 4000) (hln : l.length ≤ 4000) :
    Calls Try.prog 21 #[.slice A l.length c, .func (.func f) #[] #[.pointer (some ⟨g, 0, none⟩)]] w fun e w' => e = .returned (.bool (runN ok nx s l).2) ∧ SetN g (runN ok nx s l).1 w' ∧ Nf g w w' := by
  obtain ⟨X, hX⟩ : ∃ X, runN ok nx s l = X := ⟨_, rfl⟩
  rw [hX]
  have HX := Lib.hid (show runN ok nx s (l.drop 0) = X from hX)
  have HS := Lib.hid hs
  have HL := Lib.hid hl
  have HN := Lib.hid (And.intro hsn hln)
  have HP := Lib.hid hp
  have HXN := Lib.hid hx
  obtain ⟨A0, c0, hb, _⟩ := hs
  have HB := Lib.hid hb
  clear hX hl hp hx hb
  go_enter Try.func21, Try.ntmps21
  go_wp2_with fail
  go_loopw [9] (fun si wr => ∃ (j : Nat) (s1 : List K32), si = .int .i64 j ∧ j ≤ l.length ∧ Hid (s1.length ≤ s.length + j ∧ runN ok nx s1 (l.drop j) = X) ∧ Hid (SetN g s1 wr) ∧ Hid (Nf g w wr)) (fun si _ => l.length - (intOf si).toNat)
  case atStart => exact ⟨0, s, rfl, by omega, Lib.hid ⟨by omega, HX.out⟩, HS, Lib.hid (Nf.refl _ _)⟩
  case round =>
    obtain ⟨j, s1, rfl, hj, HU, S1, N1⟩ := hrel
    by_cases hlt : j < l.length
    · have hd : decide ((j : Int) < (l.length : Int)) = true := by simp; omega
      obtain ⟨g1, o1, hA, hg1, hc⟩ := (row_nf HL.out (Nat.le_refl _) HB.out N1.out).at encK_len hlt
      obtain ⟨x, hx⟩ : ∃ x, l[j]'hlt = x := ⟨_, rfl⟩
      rw [hx] at hc
      subst hA
      have HC := Lib.hid hc
      have hi0 : (0 : Int) ≤ (j : Int) := by omega
      have hi1 : (j : Int) < (l.length : Int) := by omega
      have hln : l.length ≤ 4000 := HN.out.2
      have HD := Lib.hid (show l.drop j = x :: l.drop (j + 1) by rw [List.drop_eq_getElem_cons hlt, hx])
      have HJ := Lib.hid (show j + 1 ≤ l.length ∧ j < l.length from ⟨by omega, hlt⟩)
      clear hx hc hg1
      have HU2 := HU.out.2
      rw [HD.out] at HU2
      unfold runN at HU2
      have HS1 : s1.length ≤ 10000 := by have := HU.out.1; have := HN.out.1; omega
      have HCL := Lib.hid (fun W h => HP.out s1 x W h HS1)
      obtain ⟨q, hq⟩ : ∃ q, ok s1 x = q := ⟨_, rfl⟩
      rw [hq] at HCL HU2
      have HU3 := Lib.hid HU2
      clear HU2 hq HS1
      go_wp2_with (first
        | ((with_reducible refine at_load 11 ?_); refine tyKc.wpList_load rfl (.tmp 11) rfl g1 (o1 + j * 32) rfl x HC.out ?_)
        | ((with_reducible refine at_store 6 12 ?_); refine tyKc.wpList_store rfl (.tmp 6) (.tmp 12) rfl rfl wr.heap.size x rfl rfl 29 _ (Blk.new wr 29 _) rfl ?_; intro w2 o2 b2; have S2 := Lib.hid (S1.out.other rfl _ o2); have N2 := Lib.hid (N1.out.call (((Below.refl _ _).alloc (Nat.le_refl _) _).trans (o2.below (by simp)))); have K2 := Lib.hid b2; clear o2 b2)
        | ((with_reducible refine at_load 6 ?_); refine tyKc.wpList_load rfl (.tmp 6) rfl wr.heap.size 0 rfl x (RowC.of_blk K2.out) ?_)
        | (go_at_fn f; refine (HCL.out _ S2.out).mono ?_; rintro e w3 ⟨rfl, s3, n3⟩; have S3 := Lib.hid s3; have N3 := Lib.hid (N2.out.trans n3); clear s3 n3; cases q))
      · go_ret
        have hX := HU3.out
        rw [if_neg (by decide)] at hX
        subst hX
        exact ⟨rfl, S3.out, N3.out⟩
      · go_roundw
        case rel => exact ⟨j + 1, nx s1 x, by go_num, HJ.out.1, Lib.hid ⟨by have := HXN.out s1 x; have := HU.out.1; omega, by have := HU3.out; simpa using this⟩, S3, N3⟩
        case measure => have := HJ.out; simp [intOf]; omega
    · have hd : decide ((j : Int) < (l.length : Int)) = false := by simp; omega
      have hX := HU.out.2
      rw [List.drop_of_length_le (by omega)] at hX
      unfold runN at hX
      subst hX
      go_wp2_with fail
      go_ret
      exact ⟨rfl, S1.out, N1.out⟩
theorem run_put : ∀ (l s : List K32), (runN (fun s x => !(decide (x ∈ s))) (fun s x => insK x s) s l).2 = freeN s l ∧ (freeN s l = true → (runN (fun s x => !(decide (x ∈ s))) (fun s x => insK x s) s l).1 = addL s l)
  | [], s => ⟨by unfold runN freeN meetF; simp, fun _ => by unfold runN; rfl⟩
  | k :: l, s => by
    have ih := run_put l (insK k s)
    have hf : freeN s (k :: l) = (!(decide (k ∈ s)) && freeN (insK k s) l) := by
      rw [Bool.eq_iff_iff, Bool.and_eq_true, freeN_iff, freeN_iff]
      simp only [List.mem_cons, List.nodup_cons, Bool.not_eq_true', decide_eq_false_iff_not]
      constructor
      · rintro ⟨h1, h2, h3⟩
        refine ⟨h1 k (.inl rfl), fun x hx => ?_, h3⟩
        rw [insK_mem]
        rintro (e | h)
        · exact h2 (e ▸ hx)
        · exact h1 x (.inr hx) h
      · rintro ⟨h1, h2, h3⟩
        refine ⟨fun x hx => ?_, fun hk => h2 k hk (insK_mem.2 (.inl rfl)), h3⟩
        rcases hx with rfl | hx
        · exact h1
        · exact fun h => h2 x hx (insK_mem.2 (.inr h))
    unfold runN
    rw [hf]
    cases hk : (!(decide (k ∈ s))) with
    | true =>
      rw [if_pos rfl, addL_cons]
      exact ⟨by rw [ih.1]; rfl, fun h => ih.2 (by simpa using h)⟩
    | false =>
      rw [if_neg (by decide)]
      exact ⟨rfl, fun h => by simp at h⟩
theorem run_take : ∀ (l s : List K32), undoN s l = if (runN (fun s x => decide (x ∈ s)) (fun s x => s.erase x) s l).2 = true then ((runN (fun s x => decide (x ∈ s)) (fun s x => s.erase x) s l).1, 0) else ([], 3)
  | [], s => by unfold runN undoN; rfl
  | k :: l, s => by
    unfold runN undoN
    by_cases hk : k ∈ s
    · rw [if_pos hk, if_pos (decide_eq_true hk)]
      exact run_take l (s.erase k)
    · rw [if_neg hk, if_neg (by simp [hk])]
set_option maxRecDepth 20000 in
set_option maxHeartbeats 2000000 in
theorem pSpend_n : SpendOk := by
  intro A A' c c' s l w hs hl hsn hln
  obtain ⟨R, hR⟩ : ∃ R, runN (fun s x => !(decide (x ∈ s))) (fun s x => insK x s) s l = R := ⟨_, rfl⟩
  obtain ⟨X, hX⟩ : ∃ X, spendN s l = X := ⟨_, rfl⟩
  rw [hX]
  have HX := Lib.hid (show (R.2 = true → X = (R.1, 0)) ∧ (R.2 = false → X = ([], 161)) by
    have hp := run_put l s
    rw [hR] at hp
    rcases spendN_or s l with ⟨h1, h2⟩ | ⟨h1, h2⟩
    · rw [h1] at hp
      exact ⟨(fun _ => by rw [← hX, h2, hp.2 rfl]), fun h => by rw [hp.1] at h; exact Bool.noConfusion h⟩
    · rw [h1] at hp
      exact ⟨fun h => by rw [hp.1] at h; exact Bool.noConfusion h, fun _ => by rw [← hX, h2]⟩)
  have HK := Lib.hid (clone_any A c s w.heap.size w (by omega) (Nat.le_refl _) hs)
  have HL := Lib.hid hl
  have HALL := Lib.hid (fun (g : Nat) (A1 : Option Addr) (c1 : Nat) (W : World) (hS : SetN g s W) (hr : RowIn encK 32 W W.heap.size A' c' l) => nall_any 19 g (fun s x => !(decide (x ∈ s))) (fun s x => insK x s) (fun s x => insK_len x s) nput_any_enters (fun s x W h hn => nput_any g s x W h hn) A' c' l s W hS hr (by omega) (by omega))
  rw [hR] at HALL
  clear hR hX hs hl
  go_enter Try.func8, Try.ntmps8
  go_wp2_with fail
  refine HK.out.mono ?_
  rintro e w1 ⟨v, rfl, p1, b1⟩
  obtain ⟨A1, c1, rfl, r1⟩ := RowIn.of_own encK_len p1
  have R1 := Lib.hid r1
  have B1 := Lib.hid b1
  clear p1 r1 b1
  go_wp2_with ((with_reducible refine at_store 6 9 ?_); refine wpList_store_blk rfl 22 (.tmp 6) (.tmp 9) rfl rfl w1.heap.size _ rfl rfl rfl 22 _ (Blk.new w1 22 #[.slice none 0 0]) (by kernel_rfl) ?_; intro w2 o2 b2; have BB := ((Below.refl w1.heap.size w1).alloc (Nat.le_refl _) (.cells #[.slice none 0 0] 22)).trans (o2.below (by simp)); have S2 := Lib.hid (show SetN w1.heap.size s w2 from ⟨A1, c1, b2, (R1.out.below BB).more BB.size⟩); have B2 := Lib.hid (B1.out.trans (BB.mono B1.out.size)); clear o2 b2 BB)
  refine (HALL.out w1.heap.size A1 c1 w2 S2.out ((HL.out.below B2.out).more B2.out.size)).mono ?_
  rintro e w3 ⟨rfl, s3, n3⟩
  have B3 := Lib.hid (B2.out.trans (n3.below B1.out.size B2.out.size))
  obtain ⟨A3, c3, hb3, hr3⟩ := s3
  have H3 := Lib.hid (And.intro hb3 hr3)
  have k3 : w3.cell? ⟨w1.heap.size, 0, none⟩ = some (.slice A3 R.1.length c3) := hb3.cell 0
  clear n3 hb3 hr3
  obtain ⟨R1', q⟩ := R
  cases q with
  | true =>
    go_wp2_with fail
    go_ret2
    have hx := HX.out.1 (by simp)
    subst hx
    exact ⟨A3, c3, rfl, H3.out.2, B3.out⟩
  | false =>
    go_wp2_with fail
    go_ret2
    have hx := HX.out.2 (by simp)
    subst hx
    exact ⟨none, 0, rfl, RowIn.nil (Nat.zero_le _), B3.out⟩
set_option maxRecDepth 20000 in
set_option maxHeartbeats 2000000 in
theorem pUndo_n : UnspendOk := by
  intro A A' c c' s l w hs hl hsn hln
  obtain ⟨R, hR⟩ : ∃ R, runN (fun s x => decide (x ∈ s)) (fun s x => s.erase x) s l = R := ⟨_, rfl⟩
  obtain ⟨X, hX⟩ : ∃ X, undoN s l = X := ⟨_, rfl⟩
  rw [hX]
  have HX := Lib.hid (show (R.2 = true → X = (R.1, 0)) ∧ (R.2 = false → X = ([], 3)) by
    have hp := run_take l s
    rw [hR, hX] at hp
    exact ⟨fun h => by rw [hp, if_pos h], fun h => by rw [hp, if_neg (by rw [h]; decide)]⟩)
  have HK := Lib.hid (clone_any A c s w.heap.size w (by omega) (Nat.le_refl _) hs)
  have HL := Lib.hid hl
  have HALL := Lib.hid (fun (g : Nat) (A1 : Option Addr) (c1 : Nat) (W : World) (hS : SetN g s W) (hr : RowIn encK 32 W W.heap.size A' c' l) => nall_any 23 g (fun s x => decide (x ∈ s)) (fun s x => s.erase x) (fun s x => Nat.le_trans List.length_erase_le (Nat.le_succ _)) ntake_any_enters (fun s x W h hn => ntake_any g s x W h hn) A' c' l s W hS hr (by omega) (by omega))
  rw [hR] at HALL
  clear hR hX hs hl
  go_enter Try.func10, Try.ntmps10
  go_wp2_with fail
  refine HK.out.mono ?_
  rintro e w1 ⟨v, rfl, p1, b1⟩
  obtain ⟨A1, c1, rfl, r1⟩ := RowIn.of_own encK_len p1
  have R1 := Lib.hid r1
  have B1 := Lib.hid b1
  clear p1 r1 b1
  go_wp2_with ((with_reducible refine at_store 6 9 ?_); refine wpList_store_blk rfl 22 (.tmp 6) (.tmp 9) rfl rfl w1.heap.size _ rfl rfl rfl 22 _ (Blk.new w1 22 #[.slice none 0 0]) (by kernel_rfl) ?_; intro w2 o2 b2; have BB := ((Below.refl w1.heap.size w1).alloc (Nat.le_refl _) (.cells #[.slice none 0 0] 22)).trans (o2.below (by simp)); have S2 := Lib.hid (show SetN w1.heap.size s w2 from ⟨A1, c1, b2, (R1.out.below BB).more BB.size⟩); have B2 := Lib.hid (B1.out.trans (BB.mono B1.out.size)); clear o2 b2 BB)
  refine (HALL.out w1.heap.size A1 c1 w2 S2.out ((HL.out.below B2.out).more B2.out.size)).mono ?_
  rintro e w3 ⟨rfl, s3, n3⟩
  have B3 := Lib.hid (B2.out.trans (n3.below B1.out.size B2.out.size))
  obtain ⟨A3, c3, hb3, hr3⟩ := s3
  have H3 := Lib.hid (And.intro hb3 hr3)
  have k3 : w3.cell? ⟨w1.heap.size, 0, none⟩ = some (.slice A3 R.1.length c3) := hb3.cell 0
  clear n3 hb3 hr3
  obtain ⟨R1', q⟩ := R
  cases q with
  | true =>
    go_wp2_with fail
    go_ret2
    have hx := HX.out.1 (by simp)
    subst hx
    exact ⟨A3, c3, rfl, H3.out.2, B3.out⟩
  | false =>
    go_wp2_with fail
    go_ret2
    have hx := HX.out.2 (by simp)
    subst hx
    exact ⟨none, 0, rfl, RowIn.nil (Nat.zero_le _), B3.out⟩
set_option maxRecDepth 20000 in
theorem pFree_r (A A' : Option Addr) (c c' : Nat) (s l : List K32) (w : World) (hs : RowIn encK 32 w w.heap.size A c s) (hl : RowIn encK 32 w w.heap.size A' c' l) (hsn : s.length ≤ 100000) (hln : l.length ≤ 100000) :
    Calls Try.prog 13 #[.slice A s.length c, .slice A' l.length c'] w fun e w' => e = .returned (.bool (freeN s l)) ∧ Below w.heap.size w w' := by
  have HM := Lib.hid (meet_any A c s A' c' l w.heap.size (by omega) (by omega) w (Nat.le_refl _) hs hl)
  have HD := Lib.hid (fun W (hb : Below w.heap.size w W) => distinct_any A' c' l w.heap.size W (by omega) hb.size (hl.below hb))
  obtain ⟨r, hr⟩ : ∃ r, freeN s l = r := ⟨_, rfl⟩
  rw [hr]
  unfold freeN at hr
  obtain ⟨q1, hq1⟩ : ∃ q, meetF s l = q := ⟨_, rfl⟩
  obtain ⟨q2, hq2⟩ : ∃ q, decide l.Nodup = q := ⟨_, rfl⟩
  rw [hq1] at HM hr
  rw [hq2] at hr
  have HQ := Lib.hid hq2
  have HR := Lib.hid hr
  clear hr hq1 hq2 hs hl
  go_enter Try.func13, Try.ntmps13
  go_wp2_with fail
  refine HM.out.mono ?_
  rintro e w1 ⟨rfl, b1⟩
  have B1 := Lib.hid b1
  clear b1
  cases q1 with
  | true =>
    go_wp2_with fail
    go_ret
    exact ⟨by rw [← HR.out]; rfl, B1.out⟩
  | false =>
    go_wp2_with fail
    refine (HD.out _ B1.out).mono ?_
    rintro e w2 ⟨rfl, b2⟩
    rw [HQ.out]
    have B2 := Lib.hid (B1.out.trans (b2.mono B1.out.size))
    clear b2
    go_wp2_with fail
    go_ret
    exact ⟨by rw [← HR.out]; rfl, B2.out⟩
theorem pFree_n : FreeOk := fun A A' c c' s l w hs hl hsn hln => pFree_r A A' c c' s l w hs hl (by omega) (by omega)
end Go.Proofs.Ytklfbconbkbmpaa
