/- The project's Undo. Written by genCoPZ.py. -/
import Derived.Test.YtkjgmhamglhggaaCoPY
namespace Go.Proofs.Ytkjgmhamglhggaa
open Go.RowKit
theorem own_rowIn {α : Type} {enc : α → List Value} {w : World} {base c k : Nat} {e : TypeId} {A : Option Addr} {l : List α} (hk : ∀ x, (enc x).length = k) (h : w.ownsRow base e k (.slice A l.length c) l.length (cellsOf enc l)) : RowIn enc k w w.heap.size A c l := by
  obtain ⟨A', c', hv, hr⟩ := RowIn.of_own hk h
  injection hv with h1 _ h3
  subst h1 h3
  exact hr
theorem own_kept {K : List Nat} {w V : World} {base n k : Nat} {e : TypeId} {v : Value} {xs : List Value} (h : w.ownsRow base e k v n xs) (hK : ∀ b, v.ownBlock = some b → b ∈ K) (kp : Kept K w V) : V.ownsRow base e k v n xs := own_keep h fun b hb hlt => kp b (hK b hb) hlt
theorem ptsR_len (id : K32) (n : Nat) : (ptsR id n).length = n := by rw [← ptsL_rev, List.length_reverse, ptsL_len]
set_option maxRecDepth 20000 in
set_option maxHeartbeats 4000000 in
theorem pUndo_g (a : TxA) (id : K32) (A As : Option Addr) (c cs : Nat) (l sp : List CoinV) (w : World) (hl : RowIn encC 68 w w.heap.size A c l) (hsp : RowIn encC 68 w w.heap.size As cs sp) (hn : l.length ≤ 300) (hs : sp.length ≤ 300) (ho : a.T.outs.length ≤ 300) (R : List CoinV × Int) (hR : undoR l id a.T.outs.length sp = R) :
    Calls Try.prog 14 #[.slice A l.length c, .agg a.cells.toArray, .agg (encK id).toArray, .slice As sp.length cs] w fun e w' => ∃ A1 c1, e = .returned (.tuple #[.slice A1 R.1.length c1, .int .i64 R.2]) ∧ RowIn encC 68 w' w'.heap.size A1 c1 R.1 ∧ Below w.heap.size w w' := by
  have H2 := Lib.hid (show Holds w [(w.heap.size + 1, 27, (encK id).toArray), (w.heap.size, 30, a.cells.toArray)] ((w.alloc (.cells a.cells.toArray 30)).alloc (.cells (encK id).toArray 27)) from by
    have := ((Holds.nil w).box 30 a.cells.toArray).box 27 (encK id).toArray
    simpa only [World.size_alloc, Nat.add_assoc] using this)
  have HN := Lib.hid hn
  have HSN := Lib.hid hs
  have HO := Lib.hid ho
  have HSP := Lib.hid hsp
  have HOF := Lib.hid (pOf_any A c l 36 #[] ((w.alloc (.cells a.cells.toArray 30)).alloc (.cells (encK id).toArray 27)) ((hl.below H2.out.below).more H2.out.below.size) (by omega))
  obtain ⟨base, hbase⟩ : ∃ base, ((w.alloc (.cells a.cells.toArray 30)).alloc (.cells (encK id).toArray 27)).heap.size = base := ⟨_, rfl⟩
  have HBS := Lib.hid (show base = w.heap.size + 2 by rw [← hbase]; simp)
  rw [hbase] at HOF
  have HR := Lib.hid hR
  unfold undoR undoF at HR
  rw [← takeQ_rem _ _ []] at HR
  clear hl hsp hn hs ho hR
  go_enter Try.func14, Try.ntmps14
  go_wp2_with fail
  refine HOF.out.mono ?_
  rintro e w1 ⟨g, v1, rfl, sv, b1⟩
  have H1 := Lib.hid (H2.out.call (hbase ▸ b1))
  have S1 := Lib.hid (setK_nil sv)
  clear sv b1 H2 HOF hbase
  have k1 : w1.cell? ⟨w.heap.size, 2, none⟩ = some (.slice a.Ao a.T.outs.length a.co) := TxA.c2 (RowC.of_blk (H1.out.at (x := (w.heap.size, 30, a.cells.toArray)) (by simp)))
  have HPT := Lib.hid (pPoints_any a.Ao a.co a.T.outs.length id w1 (by have := HO.out; omega))
  go_wp2_with ((with_reducible refine at_load 6 ?_); refine tyKc.wpList_load rfl (.tmp 6) rfl (w.heap.size + 1) 0 rfl id (RowC.of_blk (H1.out.at (x := (w.heap.size + 1, 27, (encK id).toArray)) (by simp))) ?_)
  refine HPT.out.mono ?_
  rintro e w2 ⟨gp, rfl, pm, hgp, b2⟩
  have HBK := Lib.hid (show Calls Try.prog 37 #[.slice (some ⟨gp, 0, none⟩) a.T.outs.length a.T.outs.length] w2 fun e w' => ∃ v, e = .returned v ∧ w'.ownsRow w2.heap.size 32 33 v a.T.outs.length (cellsOf (encKI .u32) (ptsR id a.T.outs.length)) ∧ Below w2.heap.size w2 w' from by
    have := pBack_any (some ⟨gp, 0, none⟩) a.T.outs.length (ptsL id a.T.outs.length) w2.heap.size w2 (by rw [ptsL_len]; have := HO.out; omega) (Nat.le_refl _) (rowIn_new pm (by rw [ptsL_len]; exact Nat.le_refl _) (by have := HO.out; unfold maxLen; omega))
    rwa [ptsL_len, ptsL_rev] at this)
  have B2 := Lib.hid (And.intro (H1.out.below.trans (b2.mono H1.out.below.size)) b2)
  clear pm hgp b2 HPT k1 H1
  go_wp2_with fail
  refine HBK.out.mono ?_
  rintro e w3 ⟨v, rfl, ov, b3⟩
  obtain ⟨Av, cv, rfl⟩ := own_shape ov
  have OV := Lib.hid ov
  have B3 := Lib.hid (B2.out.1.trans (b3.mono B2.out.1.size))
  have S3 := Lib.hid (setK_new (K := (Value.slice Av a.T.outs.length cv).ownBlock.toList) S1.out (B2.out.2.trans (b3.mono B2.out.2.size)) (fun b hb => by
    rw [Option.mem_toList] at hb
    have h1 := own_base ov b hb
    have h2 := own_lt ov b hb
    have h3 := B2.out.2.size
    omega))
  have HAT := Lib.hid (show Calls Try.prog 27 #[.slice Av a.T.outs.length cv, .func (.func 28) #[.pointer (some ⟨g, 0, none⟩)] #[]] w3 fun e w' => e = .returned (.bool (takeQ (fun _ => true) l [] (ptsR id a.T.outs.length)).isSome) ∧ (∃ l' q', SetK (Value.slice Av a.T.outs.length cv).ownBlock.toList base g (.func (.func 36) #[] #[]) l' q' w' ∧ ∀ x, takeQ (fun _ => true) l [] (ptsR id a.T.outs.length) = some x → x = (l', q')) ∧ Below base w3 w' ∧ Kept (Value.slice Av a.T.outs.length cv).ownBlock.toList w3 w' from by
    have := all_take (Value.slice Av a.T.outs.length cv).ownBlock.toList base g 36 #[] (fun _ => true) l [] (ptsR id a.T.outs.length) Av cv w3 S3.out entersU1 (fun c V _ => undo1_any c V) (by have := HN.out; omega) (by simp)
      (fun V _ hK => own_rowIn (encKI_len _) (by rw [ptsR_len]; exact own_kept OV.out (fun b hb => by rw [Option.mem_toList]; exact hb) hK)) (by rw [ptsR_len]; have := HO.out; omega)
    rwa [ptsR_len] at this)
  clear ov b3 HBK S1 B2
  go_wp2_with fail
  refine HAT.out.mono ?_
  rintro e w4 ⟨rfl, ⟨l4, q4, s4, hx4⟩, b4, k4⟩
  have B4 := Lib.hid (B3.out.trans (b4.mono (by have := HBS.out; omega)))
  have S4 := Lib.hid (setK_less s4)
  have X4 := Lib.hid hx4
  have HL4 := Lib.hid (show ∀ x, takeQ (fun _ => true) l [] (ptsR id a.T.outs.length) = some x → x.1.length ≤ 300 from fun x hx => by have := takeQ_len _ _ _ _ _ hx; have := HN.out; omega)
  clear s4 hx4 b4 k4 HAT S3 OV B3
  obtain ⟨f, hf⟩ : ∃ f, takeQ (fun _ => true) l [] (ptsR id a.T.outs.length) = f := ⟨_, rfl⟩
  rw [hf] at HR X4 HL4 ⊢
  clear hf
  cases f with
  | none =>
    go_wp2_with fail
    go_ret2
    rw [← HR.out]
    exact ⟨none, 0, rfl, RowIn.nil (Nat.zero_le _), B4.out⟩
  | some x =>
    obtain rfl := X4.out x rfl
    have HLL := Lib.hid (HL4.out _ rfl)
    clear X4 HL4
    have HBC := Lib.hid (cBack_any As cs sp w4.heap.size w4 (by have := HSN.out; omega) (Nat.le_refl _) ((HSP.out.below B4.out).more B4.out.size))
    go_wp2_with fail
    refine HBC.out.mono ?_
    rintro e w5 ⟨v, rfl, ov, b5⟩
    obtain ⟨Av, cv, rfl⟩ := own_shape ov
    have OV := Lib.hid ov
    have B5 := Lib.hid (B4.out.trans (b5.mono B4.out.size))
    have S5 := Lib.hid (setK_new (K := (Value.slice Av sp.length cv).ownBlock.toList) S4.out b5 (fun b hb => by
      rw [Option.mem_toList] at hb
      exact ⟨own_base ov b hb, own_lt ov b hb⟩))
    have HAP := Lib.hid (show Calls Try.prog 29 #[.slice Av sp.length cv, .func (.func 31) #[.pointer (some ⟨g, 0, none⟩)] #[]] w5 fun e w' => e = .returned (.bool (addC CoinV.at_ ltP l4 sp.reverse).isSome) ∧ (∃ l', SetK (Value.slice Av sp.length cv).ownBlock.toList base g (.func (.func 36) #[] #[]) l' q4 w' ∧ ∀ x, addC CoinV.at_ ltP l4 sp.reverse = some x → x = l') ∧ Below base w5 w' ∧ Kept (Value.slice Av sp.length cv).ownBlock.toList w5 w' from by
      have := all_put (Value.slice Av sp.length cv).ownBlock.toList base g (.func (.func 36) #[] #[]) l4 q4 sp.reverse Av cv w5 S5.out (Nat.le_trans HLL.out (by omega))
        (fun V _ hK => own_rowIn encC_len (by rw [List.length_reverse]; exact own_kept OV.out (fun b hb => by rw [Option.mem_toList]; exact hb) hK)) (by rw [List.length_reverse]; have := HSN.out; omega)
      rwa [List.length_reverse] at this)
    clear ov b5 HBC S4 B4
    go_wp2_with fail
    refine HAP.out.mono ?_
    rintro e w6 ⟨rfl, ⟨l6, s6, hx6⟩, b6, k6⟩
    have B6 := Lib.hid (B5.out.trans (b6.mono (by have := HBS.out; omega)))
    have S6 := Lib.hid s6
    have X6 := Lib.hid hx6
    clear s6 hx6 b6 k6 HAP S5 OV B5
    obtain ⟨f, hf⟩ : ∃ f, addC CoinV.at_ ltP l4 sp.reverse = f := ⟨_, rfl⟩
    simp only [Option.map_some, backU] at HR
    rw [hf] at HR X6 ⊢
    clear hf
    cases f with
    | none =>
      go_wp2_with fail
      go_ret2
      rw [← HR.out]
      exact ⟨none, 0, rfl, RowIn.nil (Nat.zero_le _), B6.out⟩
    | some u =>
      obtain rfl := X6.out u rfl
      obtain ⟨v7, v8, sv, _⟩ := S6.out
      obtain ⟨A7, c7, rfl, r7⟩ := RowIn.of_own encC_len sv.o1
      have R7 := Lib.hid r7
      have k7 : w6.cell? ⟨g, 0, none⟩ = some (.slice A7 u.length c7) := sv.blk.cell 0
      clear sv r7 S6 X6
      go_wp2_with fail
      go_ret2
      rw [← HR.out]
      exact ⟨A7, c7, rfl, R7.out, B6.out⟩
theorem pUndo_c : UndoOk := fun a id A As c cs l sp w _ hl hs hn hsn ho => pUndo_g a id A As c cs l sp w hl hs hn hsn ho _ rfl
end Go.Proofs.Ytkjgmhamglhggaa
