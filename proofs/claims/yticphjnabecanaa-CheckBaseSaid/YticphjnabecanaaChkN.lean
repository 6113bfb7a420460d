/- slices.IndexFunc and ContainsFunc at points; the project's Points, meet. Written by genChM2.py. -/
import Derived.Test.YticphjnabecanaaChkM
import Derived.Test.YticphjnabecanaaKeyC
namespace Go.Proofs.Yticphjnabecanaa
open Go.RowKit
/-- the place of the first one of which p holds, or -1 -/
def firstGp {α : Type} (p : α → Bool) (l : List α) : Int := if l.any p = true then (l.findIdx p : Int) else -1
theorem firstGp_at {α : Type} (p : α → Bool) (l : List α) (k : Nat) (hk : k < l.length) (hp : p l[k] = true) (hb : ∀ j (h : j < l.length), j < k → p l[j] = false) : firstGp p l = k := by
  unfold firstGp
  rw [if_pos (List.any_eq_true.2 ⟨_, List.getElem_mem hk, hp⟩)]
  congr 1
  exact (List.findIdx_eq hk).2 ⟨hp, fun j hj => hb j (by omega) hj⟩
theorem firstGp_none {α : Type} (p : α → Bool) (l : List α) (hb : ∀ j (h : j < l.length), p l[j] = false) : firstGp p l = -1 := by
  unfold firstGp
  rw [if_neg]
  intro h
  obtain ⟨x, hx, hp⟩ := List.any_eq_true.1 h
  obtain ⟨i, hi, rfl⟩ := List.getElem_of_mem hx
  rw [hb i hi] at hp; cases hp
theorem firstGp_geq {α : Type} (p : α → Bool) (l : List α) : decide ((0 : Int) ≤ firstGp p l) = l.any p := by
  unfold firstGp
  cases l.any p <;> simp
set_option maxRecDepth 20000 in
set_option maxHeartbeats 1000000 in
theorem ptIndexFunc_any (A : Option Addr) (c : Nat) (l : List PtM) (B : Nat) (w : World) (hl : l.length ≤ 1000000) (hB : B ≤ w.heap.size) (h : RowIn (encKI .u32) 33 w B A c l)
    (g : Nat) (cb : Array Value) (p : PtM → Bool) (eg : ∀ args w, (callFunc g args).run Try.prog w = .ok (.enter g args) w)
    (hp : ∀ x W, Below w.heap.size w W → Calls Try.prog g (#[.agg (encKI .u32 x).toArray] ++ cb) W fun e w' => e = .returned (.bool (p x)) ∧ Below W.heap.size W w') :
    Calls Try.prog 66 #[.slice A l.length c, .func (.func g) #[] cb] w fun e w' => e = .returned (.int .i64 (firstGp p l)) ∧ Below w.heap.size w w' := by
  obtain ⟨r, hr⟩ : ∃ r, firstGp p l = r := ⟨_, rfl⟩
  rw [hr]
  have HR := Lib.hid hr
  clear hr
  obtain ⟨n, hn⟩ : ∃ n, l.length = n := ⟨_, rfl⟩
  have HN := Lib.hid hn
  rw [hn] at hl
  have HH := Lib.hid h
  have HP := Lib.hid hp
  clear h hp
  rw [hn]
  clear hn
  go_enter Try.func66, Try.ntmps66
  go_wp2_with fail
  go_loopw [5, 8] (fun _ i wr => ∃ k : Nat, i = .int .i64 k ∧ k ≤ n ∧ Hid (∀ j (h : j < l.length), j < k → p l[j] = false) ∧ Hid (Below w.heap.size w wr)) (fun _ i _ => n - (intOf i).toNat)
  case atStart => exact ⟨0, rfl, by omega, Lib.hid (fun j h1 h2 => absurd h2 (Nat.not_lt_zero _)), Lib.hid (Below.refl _ _)⟩
  case round =>
    obtain ⟨k, rfl, hk, HI, HW⟩ := hrel
    by_cases hlt : k < n
    · have hk' : k < l.length := by rw [HN.out]; exact hlt
      obtain ⟨gg, o, rfl, hg, hc⟩ := HH.out.cells (by intro e; subst e; simp at hk')
      have HX := Lib.hid ((hc.below HW.out (by omega)).at (encKI_len _) hk')
      clear hc
      obtain ⟨x, hx⟩ : ∃ x, l[k]'hk' = x := ⟨_, rfl⟩
      rw [hx] at HX
      have HE := Lib.hid hx
      clear hx
      have d1 : (0 : Int) ≤ (k : Int) := by omega
      have d2 : (k : Int) < (n : Int) := by omega
      have HC := Lib.hid (HP.out x wr HW.out)
      obtain ⟨b, hb⟩ : ∃ b, p x = b := ⟨_, rfl⟩
      rw [hb] at HC
      have HB := Lib.hid hb
      clear hb
      cases b
      · go_wp2_with (first
          | ((with_reducible refine at_loadg 14 ?_); refine tyPt.wpList_load (by rfl) (.tmp 14) rfl gg _ rfl x (HX.out.cast (by omega)) ?_)
          | (go_at_fn g; refine HC.out.mono ?_; rintro e w2 ⟨rfl, b2⟩))
        go_roundw
        case rel =>
          refine ⟨k + 1, by go_num, by omega, Lib.hid (fun j h1 h2 => ?_), Lib.hid (HW.out.trans (b2.mono HW.out.size))⟩
          by_cases e : j = k
          · subst e; rw [HE.out]; exact HB.out
          · exact HI.out j h1 (by omega)
        case measure => simp [intOf]; omega
      · go_wp2_with (first
          | ((with_reducible refine at_loadg 14 ?_); refine tyPt.wpList_load (by rfl) (.tmp 14) rfl gg _ rfl x (HX.out.cast (by omega)) ?_)
          | (go_at_fn g; refine HC.out.mono ?_; rintro e w2 ⟨rfl, b2⟩))
        go_ret
        refine ⟨?_, HW.out.trans (b2.mono HW.out.size)⟩
        rw [← HR.out, firstGp_at p l k hk' (by rw [HE.out]; exact HB.out) HI.out]
        rfl
    · go_wp2_with fail
      go_ret
      refine ⟨?_, HW.out⟩
      rw [← HR.out, firstGp_none p l (fun j hj => HI.out j hj (by have := HN.out; omega))]
      rfl
theorem ptContainsFunc_any (A : Option Addr) (c : Nat) (l : List PtM) (B : Nat) (w : World) (hl : l.length ≤ 1000000) (hB : B ≤ w.heap.size) (h : RowIn (encKI .u32) 33 w B A c l)
    (g : Nat) (cb : Array Value) (p : PtM → Bool) (eg : ∀ args w, (callFunc g args).run Try.prog w = .ok (.enter g args) w)
    (hp : ∀ x W, Below w.heap.size w W → Calls Try.prog g (#[.agg (encKI .u32 x).toArray] ++ cb) W fun e w' => e = .returned (.bool (p x)) ∧ Below W.heap.size W w') :
    Calls Try.prog 51 #[.slice A l.length c, .func (.func g) #[] cb] w fun e w' => e = .returned (.bool (l.any p)) ∧ Below w.heap.size w w' := by
  have HC := Lib.hid (ptIndexFunc_any A c l B w hl hB h g cb p eg hp)
  have HQ := firstGp_geq p l
  obtain ⟨q, hq⟩ : ∃ q, firstGp p l = q := ⟨_, rfl⟩
  rw [hq] at HC HQ
  obtain ⟨r, hr⟩ : ∃ r, l.any p = r := ⟨_, rfl⟩
  rw [hr] at HQ ⊢
  clear hq hr h hp
  go_enter Try.func51, Try.ntmps51
  go_wp2_with (go_at_call 66; refine HC.out.mono ?_; rintro e w2 ⟨rfl, b2⟩)
  go_ret
  exact ⟨by first | (rw [← HQ]; rfl) | rfl, b2⟩
set_option maxRecDepth 20000 in
theorem chPoints_g (A : Option Addr) (c : Nat) (l : List PtM) (w : World) (hl : RowIn (encKI .u32) 33 w w.heap.size A c l) (hn : l.length ≤ 1000) :
    Calls Try.prog 17 #[.slice A l.length c] w fun e w' => e = .returned (.bool (decide l.Nodup)) ∧ Below w.heap.size w w' := by
  have HT := Lib.hid (times_any A c l w hl hn)
  obtain ⟨r, hr⟩ : ∃ r, decide l.Nodup = r := ⟨_, rfl⟩
  rw [hr]
  have HR := Lib.hid hr
  clear hr hl
  go_enter Try.func17, Try.ntmps17
  go_wp2_with fail
  refine HT.out.mono ?_
  rintro e w1 ⟨b, m, rfl, hb, hm, hc, b1⟩
  have B1 := Lib.hid b1
  have hlen : ∀ ty, (Builtin.len_ #[59] ty #[.map (some b)]).run Try.prog w1 = .ok (.int .i64 (m.length : Int)) w1 := fun ty => hm.len mapPt ty
  have HQ := Lib.hid (show ((m.length : Int) == (l.length : Int)) = r by
    rw [← HR.out, Bool.eq_iff_iff, beq_iff_eq, decide_eq_true_iff, ← foldC_nodup l, ← hc.keys, List.length_map]
    omega)
  clear b1 hm hc hb HT
  go_wp2_with fail
  go_ret
  exact ⟨by rw [← HQ.out]; rfl, B1.out⟩
set_option maxRecDepth 20000 in
theorem chMeetC_any (gm bm : Nat) (m : List (PtM × Int)) (x : PtM) (W : World) (hg : W.cell? ⟨gm, 0, none⟩ = some (.map (some bm))) (hm : MapC (encKI .u32) W bm m) :
    Calls Try.prog 52 #[.agg (encKI .u32 x).toArray, .pointer (some ⟨gm, 0, none⟩)] W fun e w' => e = .returned (.bool (decide (0 < cntC x m))) ∧ Below W.heap.size W w' := by
  have B0 := Lib.hid ((Below.refl W.heap.size W).alloc (Nat.le_refl _) (.cells (encKI .u32 x).toArray 40))
  have X0 := Lib.hid (Blk.new W 40 (encKI .u32 x).toArray)
  have M0 := Lib.hid (hm.below B0.out hm.lt)
  have k0 : (W.alloc (.cells (encKI .u32 x).toArray 40)).cell? ⟨gm, 0, none⟩ = some (.map (some bm)) := (B0.out.cell (World.block_lt_of_cell? W ⟨gm, 0, none⟩ hg)).trans hg
  obtain ⟨n, hn⟩ : ∃ n, cntC x m = n := ⟨_, rfl⟩
  have HN := Lib.hid hn
  rw [hn]
  clear hn hg hm
  go_enter Try.func52, Try.ntmps52
  go_wp2_with (first
    | ((with_reducible refine at_load 2 ?_); refine chPt.wpList_load rfl (.tmp 2) rfl W.heap.size 0 rfl x (RowC.of_blk X0.out) ?_)
    | ((with_reducible refine at_look 4 5 ?_); refine wpList_lookC (by rfl) (.tmp 4) (.tmp 5) rfl M0.out keyPt mapPt zeroI rfl x rfl n HN.out ?_))
  go_ret
  exact ⟨rfl, B0.out⟩
theorem chEntersM : ∀ args w, (callFunc 52 args).run Try.prog w = .ok (.enter 52 args) w := enters_of Try.func52 (by kernel_rfl) rfl
set_option maxRecDepth 20000 in
theorem chMeet_g (A A' : Option Addr) (c c' : Nat) (l l' : List PtM) (w : World) (hl : RowIn (encKI .u32) 33 w w.heap.size A c l) (hl' : RowIn (encKI .u32) 33 w w.heap.size A' c' l') (hn : l.length ≤ 1000) (hn' : l'.length ≤ 1000) :
    Calls Try.prog 26 #[.slice A l.length c, .slice A' l'.length c'] w fun e w' => e = .returned (.bool (l'.any fun p => decide (p ∈ l))) ∧ Below w.heap.size w w' := by
  have HT := Lib.hid (times_any A c l w hl hn)
  have HL := Lib.hid hl'
  have HF := Lib.hid (fun gm bm (m : List (PtM × Int)) W (hg : Blk W gm 59 #[.map (some bm)]) (hm : MapC (encKI .u32) W bm m) (hb : Below w.heap.size w W) =>
    ptContainsFunc_any A' c' l' w.heap.size W (by omega) hb.size (hl'.below hb) 52 #[.pointer (some ⟨gm, 0, none⟩)] (fun p => decide (0 < cntC p m)) chEntersM
      (fun x V hV => chMeetC_any gm bm m x V ((hV.cell (Blk.lt hg)).trans (hg.cell 0)) (hm.below hV hm.lt)))
  clear hl hl'
  go_enter Try.func26, Try.ntmps26
  go_wp2_with fail
  refine HT.out.mono ?_
  rintro e w1 ⟨b, m, rfl, hb, hm, hc, b1⟩
  have B1 := Lib.hid b1
  have HC := Lib.hid hc
  have N0 := Lib.hid (Blk.new w1 59 #[.map none])
  have AL := (Below.refl w1.heap.size w1).alloc (Nat.le_refl _) (.cells #[.map none] 59)
  have M0 := Lib.hid (hm.below AL hm.lt)
  have B2 := Lib.hid (B1.out.trans (AL.mono B1.out.size))
  have HBW := Lib.hid B1.out.size
  clear b1 hc hm HT hb AL
  go_wp2_with ((with_reducible refine at_store 5 7 ?_); refine wpList_store_blk rfl 59 (.tmp 5) (.tmp 7) rfl rfl w1.heap.size _ rfl rfl rfl 59 _ N0.out (by kernel_rfl) ?_; intro w2 o2 b2; have M2 := Lib.hid (M0.out.only o2 (by have := M0.out.blk_ne N0.out; simpa using this.symm)); have K2 := Lib.hid b2; have B3 := Lib.hid (B2.out.trans (o2.below (by simpa using HBW.out))); clear o2 b2)
  refine (HF.out _ _ _ _ K2.out M2.out B3.out).mono ?_
  rintro e w3 ⟨rfl, b3⟩
  have B4 := Lib.hid (B3.out.trans (b3.mono B3.out.size))
  clear b3
  have e9 : (l'.any fun p => decide (0 < cntC p m)) = l'.any fun p => decide (p ∈ l) := by
    congr 1
    funext p
    rw [decide_eq_decide, (cntC_le HC.out p).2.2, foldC_mem]
    simp
  rw [e9]
  go_wp2_with fail
  go_ret
  exact ⟨rfl, B4.out⟩
end Go.Proofs.Yticphjnabecanaa
