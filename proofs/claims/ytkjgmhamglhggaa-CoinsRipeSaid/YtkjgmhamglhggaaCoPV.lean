/- The project's set of coins: put. Written by genCoPV.py. -/
import Derived.Test.YtkjgmhamglhggaaCoPU
import Derived.Deep.Cut
import Derived.Deep.CutRange
import Derived.Deep.DeepCutAuto
namespace Go.Proofs.Ytkjgmhamglhggaa
open Go.RowKit
theorem putC_insAt (c : CoinV) : ∀ l : List CoinV, putC CoinV.at_ ltP c l = insAt l ((l.findIdx? (fun x => ltP c.at_ x.at_)).getD l.length) c
  | [] => rfl
  | x :: l => by
    unfold putC
    rw [List.findIdx?_cons]
    cases h : ltP c.at_ x.at_ with
    | true => simp [insAt]
    | false =>
      rw [putC_insAt c l]
      cases h2 : l.findIdx? (fun x => ltP c.at_ x.at_) with
      | none => simp [insAt]
      | some j => simp [insAt]
/-- what stands while put is at work -/
structure PutV (base g : Nat) (fv v1 v2 : Value) (l q : List CoinV) (c : CoinV) (w W : World) : Prop where
  set : SetV base g fv v1 v2 l q W
  box : Blk W w.heap.size 49 (encC c).toArray
  below : Fr (InSet g v1 v2) w W
/-- what put leaves -/
def PutE (base g : Nat) (fv v1 v2 : Value) (l q : List CoinV) (w w' : World) : Prop := ∃ v1', SetV base g fv v1' v2 l q w' ∧ Fr (InSet g v1 v2) w w' ∧ (v1'.ownBlock = v1.ownBlock ∨ ∃ k, v1'.ownBlock = some k ∧ w.heap.size ≤ k)
theorem PutV.call {base g : Nat} {fv v1 v2 : Value} {l q : List CoinV} {c : CoinV} {w W W' : World} (h : PutV base g fv v1 v2 l q c w W) (hb : Below W.heap.size W W') : PutV base g fv v1 v2 l q c w W' :=
  ⟨h.set.below hb, below_blk hb h.box h.box.lt, h.below.call hb⟩
set_option maxRecDepth 20000 in
set_option maxHeartbeats 4000000 in
theorem coput_any (base g : Nat) (fv v1 v2 : Value) (l q : List CoinV) (c : CoinV) (w : World) (hs : SetV base g fv v1 v2 l q w) (hl : l.length ≤ 1000) :
    Calls Try.prog 31 #[.pointer (some ⟨g, 0, none⟩), .agg (encC c).toArray] w fun e w' => e = .returned (.bool (findK l c.at_).isNone) ∧ PutE base g fv v1 v2 (if (findK l c.at_).isNone then putC CoinV.at_ ltP c l else l) q w w' := by
  obtain ⟨b0, hb0⟩ : ∃ b, (findK l c.at_).isNone = b := ⟨_, rfl⟩
  obtain ⟨L0, hL0⟩ : ∃ L, (if (findK l c.at_).isNone then putC CoinV.at_ ltP c l else l) = L := ⟨_, rfl⟩
  rw [hL0, hb0]
  obtain ⟨A, cc, hv, hrow⟩ := RowIn.of_own encC_len hs.o1
  subst hv
  obtain ⟨Z, hZ, hz, hzs, hzn⟩ := zero_of zeroCo_ok zeroC_size
  have HZS := Lib.hid hzs
  have HB := Lib.hid (show base ≤ w.heap.size by have := hs.low; have := hs.blk.lt; omega)
  have GLT := Lib.hid hs.blk.lt
  have HL1 := Lib.hid (own_lt hs.o1)
  have HL2 := Lib.hid (own_lt hs.o2)
  have HLL := Lib.hid hl
  have P0 := Lib.hid (show PutV base g fv (.slice A l.length cc) v2 l q c w (w.alloc (.cells (encC c).toArray 49)) from ⟨hs.below ((Below.refl _ _).alloc (Nat.le_refl _) _), Blk.new w 49 _, (Fr.refl _ _).alloc _⟩)
  obtain ⟨f, hf⟩ : ∃ f, findK l c.at_ = f := ⟨_, rfl⟩
  have HF := Lib.hid (show ∀ W, PutV base g fv (.slice A l.length cc) v2 l q c w W → Calls Try.prog 16 #[.slice A l.length cc, .agg (encKI .u32 c.at_).toArray] W fun e w' => e = .returned (.tuple #[.agg (encC (f.getD zeroCoin)).toArray, .bool f.isSome]) ∧ Below W.heap.size W w' from fun W h => by
    obtain ⟨A', c', hv', hr'⟩ := RowIn.of_own encC_len h.set.o1
    injection hv' with h1 _ h3
    subst h1 h3
    have := pFind_r A cc l c.at_ W hr' (by have := HLL.out; omega)
    rw [hf] at this
    exact this)
  rw [hf] at hb0 hL0
  have HB0 := Lib.hid hb0
  have HL0 := Lib.hid hL0
  clear hb0 hL0
  have HPC := Lib.hid (putC_insAt c l)
  have HIX := Lib.hid (firstCo_of (fun x => ltP c.at_ x.at_) l)
  clear hs hrow hf hl hZ hzs hzn
  go_enter Try.func31, Try.ntmps31
  go_wp2_with fail
  go_cut [6] from 18 (fun v6 wc => v6 = .bool f.isSome ∧ Hid (PutV base g fv (.slice A l.length cc) v2 l q c w wc))
  case first =>
    have PV := Lib.hid (P0.out.call (Below.refl _ _).drew)
    refine wp_region_held_drew (S := fun V => V.cell? ⟨g, 0, none⟩ = some (.slice A l.length cc) ∧ RowC V w.heap.size 0 (encC c)) (by kernel_rfl) ⟨PV.out.set.blk.cell 0, RowC.of_blk PV.out.box⟩ ?_
    intro hS
    generalize (w.alloc (.cells (encC c).toArray 49)).drew = wd at PV hS ⊢
    refine wpAnyH_take (i := 0) (v := .pointer (some ⟨g, 0, none⟩)) rfl (by kernel_rfl) (by kernel_rfl) (by kernel_rfl) (fun _ _ _ h => h) (Or.inl ⟨by rfl, fun W _ => by go_simp; try with_reducible rfl⟩) hS ?_
    simp only [Act.put, List.getElem_toArray, List.getElem_cons_zero, List.setIfInBounds_toArray, List.set_cons_succ, List.set_cons_zero]
    refine wpAnyH_take (i := 1) (v := .pointer (some ⟨g, 0, none⟩)) rfl (by kernel_rfl) (by kernel_rfl) (by kernel_rfl) (fun _ _ _ h => h) (Or.inl ⟨by rfl, fun W _ => by go_simp; try with_reducible rfl⟩) hS ?_
    simp only [Act.put, List.getElem_toArray, List.getElem_cons_zero, List.getElem_cons_succ, List.setIfInBounds_toArray, List.set_cons_succ, List.set_cons_zero]
    refine wpAnyH_take (i := 2) (v := .pointer (some ⟨g, 0, none⟩)) rfl (by kernel_rfl) (by kernel_rfl) (by kernel_rfl) (fun _ _ _ h => h) (Or.inl ⟨by rfl, fun W _ => by go_simp; try with_reducible rfl⟩) hS ?_
    simp only [Act.put, List.getElem_toArray, List.getElem_cons_zero, List.getElem_cons_succ, List.setIfInBounds_toArray, List.set_cons_succ, List.set_cons_zero]
    refine wpAnyH_take (i := 3) (v := .slice A l.length cc) rfl (by kernel_rfl) (by kernel_rfl) (by kernel_rfl) (fun _ _ _ h => h) (yieldsIf_cell (by rfl) 22 (.tmp 11) rfl ⟨g, 0, none⟩ rfl (.slice A l.length cc) Try.isAgg22 (fun _ h => h.1)) hS ?_
    simp only [Act.put, List.getElem_toArray, List.getElem_cons_zero, List.getElem_cons_succ, List.setIfInBounds_toArray, List.set_cons_succ, List.set_cons_zero]
    refine wpAnyH_take (i := 4) (v := .pointer (some ⟨w.heap.size, 0, none⟩)) rfl (by kernel_rfl) (by kernel_rfl) (by kernel_rfl) (fun _ _ _ h => h) (Or.inl ⟨by rfl, fun W _ => by go_simp; try with_reducible rfl⟩) hS ?_
    simp only [Act.put, List.getElem_toArray, List.getElem_cons_zero, List.getElem_cons_succ, List.setIfInBounds_toArray, List.set_cons_succ, List.set_cons_zero]
    refine wpAnyH_take (i := 5) (v := .agg (encKI .u32 c.at_).toArray) rfl (by kernel_rfl) (by kernel_rfl) (by kernel_rfl) (fun _ _ _ h => h) (tyPc.yieldsIf_load (by rfl) (.tmp 13) rfl w.heap.size 0 rfl c.at_ (fun _ h => RowC.co_at h.2)) hS ?_
    simp only [Act.put, List.getElem_toArray, List.getElem_cons_zero, List.getElem_cons_succ, List.setIfInBounds_toArray, List.set_cons_succ, List.set_cons_zero]
    refine wpAnyH_ready (rs := [6, 10]) (by kernel_rfl) (by simp) ?_
    refine AllReadyH.cons rfl (fun Kq hK => ?_) (AllReadyH.cons rfl (fun Kq hK => ?_) AllReadyH.nil)
    · go_simp
      with_reducible refine (HF.out _ PV.out).mono ?_
      rintro e x1 ⟨rfl, b1⟩
      have PV2 := Lib.hid (PV.out.call (b1))
      have G5 := Lib.hid (show w.heap.size + 1 ≤ x1.heap.size from Nat.le_trans PV.out.box.lt b1.size)
      clear PV b1
      have PV := PV2
      clear PV2
      refine hK.out _ _ ⟨PV.out.set.blk.cell 0, RowC.of_blk PV.out.box⟩ (fun hS => ?_)
      clear hK Kq
      try simp only [Act.put, List.getElem_toArray, List.getElem_cons_zero, List.getElem_cons_succ, List.setIfInBounds_toArray, List.set_cons_succ, List.set_cons_zero]
      refine wpAnyH_take (i := 7) (v := (.tuple #[.agg (encC (f.getD zeroCoin)).toArray, .bool f.isSome])) rfl (by kernel_rfl) (by kernel_rfl) (by kernel_rfl) (fun _ _ _ h => h) (Or.inl ⟨by rfl, fun W _ => by go_simp; try with_reducible rfl⟩) hS ?_
      simp only [Act.put, List.getElem_toArray, List.getElem_cons_zero, List.getElem_cons_succ, List.setIfInBounds_toArray, List.set_cons_succ, List.set_cons_zero]
      refine wpAnyH_take (i := 8) (v := .agg (encC (f.getD zeroCoin)).toArray) rfl (by kernel_rfl) (by kernel_rfl) (by kernel_rfl) (fun _ _ _ h => h) (Or.inl ⟨by rfl, fun W _ => by go_simp; try with_reducible rfl⟩) hS ?_
      simp only [Act.put, List.getElem_toArray, List.getElem_cons_zero, List.getElem_cons_succ, List.setIfInBounds_toArray, List.set_cons_succ, List.set_cons_zero]
      refine wpAnyH_take (i := 9) (v := .bool f.isSome) rfl (by kernel_rfl) (by kernel_rfl) (by kernel_rfl) (fun _ _ _ h => h) (Or.inl ⟨by rfl, fun W _ => by go_simp; try with_reducible rfl⟩) hS ?_
      simp only [Act.put, List.getElem_toArray, List.getElem_cons_zero, List.getElem_cons_succ, List.setIfInBounds_toArray, List.set_cons_succ, List.set_cons_zero]
      refine wpAnyH_ready (rs := [10]) (by kernel_rfl) (by simp) ?_
      refine AllReadyH.cons rfl (fun Kq hK => ?_) AllReadyH.nil
      go_simp
      have KZ := Lib.hid (Blk.new (x1) 49 Z)
      have PV2 := Lib.hid (PV.out.call ((Below.refl _ _).alloc (Nat.le_refl _) (.cells Z 49)))
      clear PV
      have PV := PV2
      clear PV2
      refine hK.out _ _ ⟨PV.out.set.blk.cell 0, RowC.of_blk PV.out.box⟩ (fun hS => ?_)
      clear hK Kq
      try simp only [Act.put, List.getElem_toArray, List.getElem_cons_zero, List.getElem_cons_succ, List.setIfInBounds_toArray, List.set_cons_succ, List.set_cons_zero]
      refine wpAnyH_ready (rs := [11]) (by kernel_rfl) (by simp) ?_
      refine AllReadyH.cons rfl (fun Kq hK => ?_) AllReadyH.nil
      refine tyCoc.step_storeAt rfl (.tmp 5) (.tmp 16) rfl rfl (x1.heap.size) 0 (f.getD zeroCoin) rfl rfl 49 Z.toList (by simpa using KZ.out) (by rw [Array.length_toList, HZS.out]; decide) ?_
      intro w4 o4 b4
      have B4 := Lib.hid (show Below (x1.heap.size) _ w4 from o4.below (by simp))
      have PV2 := Lib.hid (show PutV base g fv (.slice A l.length cc) v2 l q c w w4 from ⟨⟨o4.blk PV.out.set.blk (by have h1 := GLT.out; have h2 := G5.out; intro h; rw [List.mem_singleton] at h; omega), PV.out.set.low, own_keep PV.out.set.o1 (fun b hb _ => o4.block b (by have h1 := HL1.out b hb; have h2 := G5.out; intro h; rw [List.mem_singleton] at h; omega)), own_keep PV.out.set.o2 (fun b hb _ => o4.block b (by have h1 := HL2.out b hb; have h2 := G5.out; intro h; rw [List.mem_singleton] at h; omega)), PV.out.set.ne⟩,
        o4.blk PV.out.box (by have h2 := G5.out; intro h; rw [List.mem_singleton] at h; omega), PV.out.below.only o4 (.inr (by have h2 := G5.out; omega))⟩)
      clear PV o4 b4 KZ B4
      have PV := PV2
      clear PV2
      refine hK.out _ _ ⟨PV.out.set.blk.cell 0, RowC.of_blk PV.out.box⟩ (fun hS => ?_)
      clear hK Kq
      try simp only [Act.put, List.getElem_toArray, List.getElem_cons_zero, List.getElem_cons_succ, List.setIfInBounds_toArray, List.set_cons_succ, List.set_cons_zero]
      refine wpAnyH_ready (rs := [12]) (by kernel_rfl) (by simp) ?_
      refine AllReadyH.cons rfl (fun Kq hK => ?_) AllReadyH.nil
      go_simp
      refine hK.out _ _ ⟨PV.out.set.blk.cell 0, RowC.of_blk PV.out.box⟩ (fun hS => ?_)
      clear hK Kq
      try simp only [Act.put, List.getElem_toArray, List.getElem_cons_zero, List.getElem_cons_succ, List.setIfInBounds_toArray, List.set_cons_succ, List.set_cons_zero]
      refine wpAnyH_done (by kernel_rfl) ?_ _
      go_wp2_with fail
      go_meet
      exact ⟨rfl, PV⟩
    · have G5 := Lib.hid (show w.heap.size + 1 ≤ wd.heap.size from PV.out.box.lt)
      go_simp
      have KZ := Lib.hid (Blk.new (wd) 49 Z)
      have PV2 := Lib.hid (PV.out.call ((Below.refl _ _).alloc (Nat.le_refl _) (.cells Z 49)))
      clear PV
      have PV := PV2
      clear PV2
      refine hK.out _ _ ⟨PV.out.set.blk.cell 0, RowC.of_blk PV.out.box⟩ (fun hS => ?_)
      clear hK Kq
      try simp only [Act.put, List.getElem_toArray, List.getElem_cons_zero, List.getElem_cons_succ, List.setIfInBounds_toArray, List.set_cons_succ, List.set_cons_zero]
      refine wpAnyH_ready (rs := [6]) (by kernel_rfl) (by simp) ?_
      refine AllReadyH.cons rfl (fun Kq hK => ?_) AllReadyH.nil
      go_simp
      with_reducible refine (HF.out _ PV.out).mono ?_
      rintro e x1 ⟨rfl, b1⟩
      have PV2 := Lib.hid (PV.out.call (b1))
      have KZ2 := Lib.hid (below_blk b1 KZ.out KZ.out.lt)
      clear KZ
      have KZ := KZ2
      clear KZ2 PV b1
      have PV := PV2
      clear PV2
      refine hK.out _ _ ⟨PV.out.set.blk.cell 0, RowC.of_blk PV.out.box⟩ (fun hS => ?_)
      clear hK Kq
      try simp only [Act.put, List.getElem_toArray, List.getElem_cons_zero, List.getElem_cons_succ, List.setIfInBounds_toArray, List.set_cons_succ, List.set_cons_zero]
      refine wpAnyH_take (i := 7) (v := (.tuple #[.agg (encC (f.getD zeroCoin)).toArray, .bool f.isSome])) rfl (by kernel_rfl) (by kernel_rfl) (by kernel_rfl) (fun _ _ _ h => h) (Or.inl ⟨by rfl, fun W _ => by go_simp; try with_reducible rfl⟩) hS ?_
      simp only [Act.put, List.getElem_toArray, List.getElem_cons_zero, List.getElem_cons_succ, List.setIfInBounds_toArray, List.set_cons_succ, List.set_cons_zero]
      refine wpAnyH_take (i := 8) (v := .agg (encC (f.getD zeroCoin)).toArray) rfl (by kernel_rfl) (by kernel_rfl) (by kernel_rfl) (fun _ _ _ h => h) (Or.inl ⟨by rfl, fun W _ => by go_simp; try with_reducible rfl⟩) hS ?_
      simp only [Act.put, List.getElem_toArray, List.getElem_cons_zero, List.getElem_cons_succ, List.setIfInBounds_toArray, List.set_cons_succ, List.set_cons_zero]
      refine wpAnyH_take (i := 9) (v := .bool f.isSome) rfl (by kernel_rfl) (by kernel_rfl) (by kernel_rfl) (fun _ _ _ h => h) (Or.inl ⟨by rfl, fun W _ => by go_simp; try with_reducible rfl⟩) hS ?_
      simp only [Act.put, List.getElem_toArray, List.getElem_cons_zero, List.getElem_cons_succ, List.setIfInBounds_toArray, List.set_cons_succ, List.set_cons_zero]
      refine wpAnyH_ready (rs := [11]) (by kernel_rfl) (by simp) ?_
      refine AllReadyH.cons rfl (fun Kq hK => ?_) AllReadyH.nil
      refine tyCoc.step_storeAt rfl (.tmp 5) (.tmp 16) rfl rfl ((wd).heap.size) 0 (f.getD zeroCoin) rfl rfl 49 Z.toList (by simpa using KZ.out) (by rw [Array.length_toList, HZS.out]; decide) ?_
      intro w4 o4 b4
      have B4 := Lib.hid (show Below ((wd).heap.size) _ w4 from o4.below (by simp))
      have PV2 := Lib.hid (show PutV base g fv (.slice A l.length cc) v2 l q c w w4 from ⟨⟨o4.blk PV.out.set.blk (by have h1 := GLT.out; have h2 := G5.out; intro h; rw [List.mem_singleton] at h; omega), PV.out.set.low, own_keep PV.out.set.o1 (fun b hb _ => o4.block b (by have h1 := HL1.out b hb; have h2 := G5.out; intro h; rw [List.mem_singleton] at h; omega)), own_keep PV.out.set.o2 (fun b hb _ => o4.block b (by have h1 := HL2.out b hb; have h2 := G5.out; intro h; rw [List.mem_singleton] at h; omega)), PV.out.set.ne⟩,
        o4.blk PV.out.box (by have h2 := G5.out; intro h; rw [List.mem_singleton] at h; omega), PV.out.below.only o4 (.inr (by have h2 := G5.out; omega))⟩)
      clear PV o4 b4 KZ B4
      have PV := PV2
      clear PV2
      refine hK.out _ _ ⟨PV.out.set.blk.cell 0, RowC.of_blk PV.out.box⟩ (fun hS => ?_)
      clear hK Kq
      try simp only [Act.put, List.getElem_toArray, List.getElem_cons_zero, List.getElem_cons_succ, List.setIfInBounds_toArray, List.set_cons_succ, List.set_cons_zero]
      refine wpAnyH_ready (rs := [12]) (by kernel_rfl) (by simp) ?_
      refine AllReadyH.cons rfl (fun Kq hK => ?_) AllReadyH.nil
      go_simp
      refine hK.out _ _ ⟨PV.out.set.blk.cell 0, RowC.of_blk PV.out.box⟩ (fun hS => ?_)
      clear hK Kq
      try simp only [Act.put, List.getElem_toArray, List.getElem_cons_zero, List.getElem_cons_succ, List.setIfInBounds_toArray, List.set_cons_succ, List.set_cons_zero]
      refine wpAnyH_done (by kernel_rfl) ?_ _
      go_wp2_with fail
      go_meet
      exact ⟨rfl, PV⟩
  case rest =>
    obtain ⟨rfl, PC⟩ := hcut
    clear P0 HF hz HZS
    cases f with
    | some d =>
      go_wp2_with fail
      go_ret
      exact ⟨congrArg (fun b => Ending.returned (Value.bool b)) HB0.out, HL0.out ▸ ⟨_, PC.out.set, PC.out.below, .inl rfl⟩⟩
    | none =>
      have k1 : wc.cell? ⟨g, 0, none⟩ = some (.slice A l.length cc) := PC.out.set.blk.cell 0
      obtain ⟨i, hi⟩ : ∃ i, (l.findIdx? (fun x => ltP c.at_ x.at_)).getD l.length = i := ⟨_, rfl⟩
      have HPC2 := Lib.hid (show putC CoinV.at_ ltP c l = insAt l i c by rw [HPC.out, hi])
      have HI := Lib.hid (show i ≤ l.length by
        rcases HIX.out with ⟨_, _, h⟩ | ⟨j, hj, _, _, _, h⟩
        · rw [h] at hi; simp at hi; omega
        · rw [h] at hi; simp at hi; omega)
      have HC := Lib.hid (show Calls Try.prog 40 #[.slice A l.length cc, .func (.func 47) #[] #[.pointer (some ⟨w.heap.size, 0, none⟩)]] wc fun e w' => e = .returned (.int .i64 (firstCo (fun x => ltP c.at_ x.at_) l)) ∧ Below wc.heap.size wc w' from by
        obtain ⟨A', c', hv', hr'⟩ := RowIn.of_own encC_len PC.out.set.o1
        injection hv' with h1 _ h3
        subst h1 h3
        exact cIndexFunc_any A cc l wc.heap.size wc (by have := HLL.out; omega) (Nat.le_refl _) hr' 47 #[.pointer (some ⟨w.heap.size, 0, none⟩)] (fun x => ltP c.at_ x.at_) entersP1 (fun x W hW => put1_any w.heap.size c x W (below_blk hW PC.out.box PC.out.box.lt)))
      clear HPC
      go_wp2_with fail
      refine HC.out.mono ?_
      rintro e w1 ⟨rfl, b1⟩
      have PK := Lib.hid (PC.out.call b1)
      have k2 : w1.cell? ⟨g, 0, none⟩ = some (.slice A l.length cc) := PK.out.set.blk.cell 0
      clear PC b1 HC k1
      rcases HIX.out with ⟨h1, _, h⟩ | ⟨j, hj, h1, _, _, h⟩
      · have hil : i = l.length := by rw [h] at hi; simpa using hi.symm
        subst hil
        rw [h1]
        clear h1 h hi HIX
        go_wp2_with fail
        clear k2
        have PV := Lib.hid (PK.out.call (Below.refl _ _).drew)
        clear PK
        refine wp_region_held_drew (S := fun V => RowC V w.heap.size 0 (encC c)) (by kernel_rfl) (RowC.of_blk PV.out.box) ?_
        intro hS
        generalize w1.drew = wd at PV hS ⊢
        refine wpAnyH_take (i := 0) (v := .pointer (some ⟨g, 0, none⟩)) rfl (by kernel_rfl) (by kernel_rfl) (by kernel_rfl) (fun _ _ _ h => h) (Or.inl ⟨by rfl, fun W _ => by go_simp; try with_reducible rfl⟩) hS ?_
        simp only [Act.put, List.getElem_toArray, List.getElem_cons_zero, List.setIfInBounds_toArray, List.set_cons_succ, List.set_cons_zero]
        refine wpAnyH_take (i := 1) (v := .pointer (some ⟨g, 0, none⟩)) rfl (by kernel_rfl) (by kernel_rfl) (by kernel_rfl) (fun _ _ _ h => h) (Or.inl ⟨by rfl, fun W _ => by go_simp; try with_reducible rfl⟩) hS ?_
        simp only [Act.put, List.getElem_toArray, List.getElem_cons_zero, List.getElem_cons_succ, List.setIfInBounds_toArray, List.set_cons_succ, List.set_cons_zero]
        refine wpAnyH_take (i := 2) (v := .pointer (some ⟨g, 0, none⟩)) rfl (by kernel_rfl) (by kernel_rfl) (by kernel_rfl) (fun _ _ _ h => h) (Or.inl ⟨by rfl, fun W _ => by go_simp; try with_reducible rfl⟩) hS ?_
        simp only [Act.put, List.getElem_toArray, List.getElem_cons_zero, List.getElem_cons_succ, List.setIfInBounds_toArray, List.set_cons_succ, List.set_cons_zero]
        refine wpAnyH_take (i := 3) (v := .pointer (some ⟨g, 0, none⟩)) rfl (by kernel_rfl) (by kernel_rfl) (by kernel_rfl) (fun _ _ _ h => h) (Or.inl ⟨by rfl, fun W _ => by go_simp; try with_reducible rfl⟩) hS ?_
        simp only [Act.put, List.getElem_toArray, List.getElem_cons_zero, List.getElem_cons_succ, List.setIfInBounds_toArray, List.set_cons_succ, List.set_cons_zero]
        refine wpAnyH_take (i := 5) (v := .int .i64 l.length) rfl (by kernel_rfl) (by kernel_rfl) (by kernel_rfl) (fun _ _ _ h => h) (Or.inl ⟨by rfl, fun W _ => by go_simp; try with_reducible rfl⟩) hS ?_
        simp only [Act.put, List.getElem_toArray, List.getElem_cons_zero, List.getElem_cons_succ, List.setIfInBounds_toArray, List.set_cons_succ, List.set_cons_zero]
        refine wpAnyH_take (i := 6) (v := .agg (encC c).toArray) rfl (by kernel_rfl) (by kernel_rfl) (by kernel_rfl) (fun _ _ _ h => h) (tyCoc.yieldsIf_load (by rfl) (.tmp 3) rfl w.heap.size 0 rfl c (fun _ h => h)) hS ?_
        simp only [Act.put, List.getElem_toArray, List.getElem_cons_zero, List.getElem_cons_succ, List.setIfInBounds_toArray, List.set_cons_succ, List.set_cons_zero]
        refine wpAnyH_ready (rs := [4, 7]) (by kernel_rfl) (by simp) ?_
        refine AllReadyH.cons rfl (fun Kq hK => ?_) (AllReadyH.cons rfl (fun Kq hK => ?_) AllReadyH.nil)
        · refine step_load_one (by rfl) 22 (.tmp 35) rfl ⟨g, 0, none⟩ rfl (.slice A l.length cc) Try.isAgg22 (PV.out.set.blk.cell 0) ?_
          refine hK.out _ _ (RowC.of_blk PV.out.box) (fun hS => ?_)
          clear hK Kq
          try simp only [Act.put, List.getElem_toArray, List.getElem_cons_zero, List.getElem_cons_succ, List.setIfInBounds_toArray, List.set_cons_succ, List.set_cons_zero]
          refine wpAnyH_ready (rs := [7]) (by kernel_rfl) (by simp) ?_
          refine AllReadyH.cons rfl (fun Kq hK => ?_) AllReadyH.nil
          refine tyCo.step_build rfl czsC 1 _ rfl [c] rfl (by omega) (by omega) (by kernel_rfl) ?_
          have L1 := Lib.hid (Blk.new (wd) 49 (cellsOf encC [c]).toArray)
          have HN1 := Lib.hid (show (.slice A l.length cc : Value).ownBlock ≠ some wd.heap.size from fun e => by have := own_lt PV.out.set.o1 _ e; omega)
          have PV2 := Lib.hid (PV.out.call ((Below.refl _ _).alloc (Nat.le_refl _) (.cells (cellsOf encC [c]).toArray 49)))
          clear PV
          have PV := PV2
          clear PV2
          refine hK.out _ _ (RowC.of_blk PV.out.box) (fun hS => ?_)
          clear hK Kq
          try simp only [Act.put, List.getElem_toArray, List.getElem_cons_zero, List.getElem_cons_succ, List.setIfInBounds_toArray, List.set_cons_succ, List.set_cons_zero]
          refine wpAnyH_ready (rs := [8]) (by kernel_rfl) (by simp) ?_
          refine AllReadyH.cons rfl (fun Kq hK => ?_) AllReadyH.nil
          go_simp
          with_reducible refine (cInsert_own base (.slice A l.length cc) l l.length c wd.heap.size _ PV.out.set.o1 HI.out (by have := HLL.out; omega) L1.out HN1.out (Nat.le_trans HB.out PV.out.below.size)).mono ?_
          rintro e w6 ⟨v6, rfl, r6, g6, q6⟩
          have KB6 := Lib.hid (PV.out.set.blk.grown g6 (fun e => own_far PV.out.set.o1 PV.out.set.blk neCS _ e.symm rfl))
          have KX6 := Lib.hid (PV.out.box.grown g6 (fun e => by have := HL1.out _ e.symm; omega))
          have O26 := Lib.hid (own_keep PV.out.set.o2 (fun b hb hlt => g6.block b hlt (fun e => PV.out.set.ne b e.symm hb)))
          have NE6 := Lib.hid (show ∀ k, v6.ownBlock = some k → v2.ownBlock ≠ some k from fun k hk e => by
            rcases q6 with q6 | q6
            · rw [q6] at hk; exact PV.out.set.ne k hk e
            · rw [q6] at hk; have h1 := own_lt PV.out.set.o2 k e; have := Option.some.inj hk; omega)
          have BB6 := Lib.hid (PV.out.below.grown g6 (fun b hb => .inl (.inr (.inl hb))))
          have NW6 := Lib.hid (show v6.ownBlock = (.slice A l.length cc : Value).ownBlock ∨ ∃ k, v6.ownBlock = some k ∧ w.heap.size ≤ k from q6.imp id fun e => ⟨_, e, PV.out.below.size⟩)
          have O16 := Lib.hid r6
          have LOW := Lib.hid PV.out.set.low
          refine hK.out _ _ (RowC.of_blk KX6.out) (fun hS => ?_)
          clear hK Kq r6 g6 q6 PV L1 HN1
          try simp only [Act.put, List.getElem_toArray, List.getElem_cons_zero, List.getElem_cons_succ, List.setIfInBounds_toArray, List.set_cons_succ, List.set_cons_zero]
          refine wpAnyH_take (i := 9) (v := .pointer (some ⟨g, 0, none⟩)) rfl (by kernel_rfl) (by kernel_rfl) (by kernel_rfl) (fun _ _ _ h => h) (Or.inl ⟨by rfl, fun W _ => by go_simp; try with_reducible rfl⟩) hS ?_
          simp only [Act.put, List.getElem_toArray, List.getElem_cons_zero, List.getElem_cons_succ, List.setIfInBounds_toArray, List.set_cons_succ, List.set_cons_zero]
          refine wpAnyH_take (i := 10) (v := .pointer (some ⟨g, 0, none⟩)) rfl (by kernel_rfl) (by kernel_rfl) (by kernel_rfl) (fun _ _ _ h => h) (Or.inl ⟨by rfl, fun W _ => by go_simp; try with_reducible rfl⟩) hS ?_
          simp only [Act.put, List.getElem_toArray, List.getElem_cons_zero, List.getElem_cons_succ, List.setIfInBounds_toArray, List.set_cons_succ, List.set_cons_zero]
          refine wpAnyH_ready (rs := [11]) (by kernel_rfl) (by simp) ?_
          refine AllReadyH.cons rfl (fun Kq hK => ?_) AllReadyH.nil
          refine step_store_cell rfl 22 (.tmp 42) (.tmp 40) rfl rfl g 0 v6 rfl rfl (own_one O16.out) 79 _ KB6.out (by simp) (by kernel_rfl) ?_
          intro w7 o7 b7
          have SV := Lib.hid (show SetV base g fv v6 v2 (insAt l l.length c) q w7 from ⟨b7, LOW.out, own_keep O16.out (fun b hb _ => o7.block b (by have := own_far O16.out KB6.out neCS b hb; simpa using this)), own_keep O26.out (fun b hb _ => o7.block b (by have := own_far O26.out KB6.out neCS b hb; simpa using this)), NE6.out⟩)
          have B7 := Lib.hid (BB6.out.only o7 (.inl (.inl rfl)))
          refine hK.out _ _ (RowC.of_blk (o7.blk KX6.out (by have := GLT.out; intro h; rw [List.mem_singleton] at h; omega))) (fun hS => ?_)
          clear hK Kq o7 b7 KB6 KX6 O16 O26 BB6 NE6
          refine wpAnyH_done (by kernel_rfl) ?_ _
          clear hS
          go_wp2_with fail
          go_ret
          exact ⟨congrArg (fun b => Ending.returned (Value.bool b)) HB0.out, HL0.out ▸ (show PutE base g fv (.slice A l.length cc) v2 (putC CoinV.at_ ltP c l) q w w7 from HPC2.out.symm ▸ ⟨_, SV.out, B7.out, NW6.out⟩)⟩
        · refine tyCo.step_build rfl czsC 1 _ rfl [c] rfl (by omega) (by omega) (by kernel_rfl) ?_
          have L1 := Lib.hid (Blk.new (wd) 49 (cellsOf encC [c]).toArray)
          have HN1 := Lib.hid (show (.slice A l.length cc : Value).ownBlock ≠ some wd.heap.size from fun e => by have := own_lt PV.out.set.o1 _ e; omega)
          have PV2 := Lib.hid (PV.out.call ((Below.refl _ _).alloc (Nat.le_refl _) (.cells (cellsOf encC [c]).toArray 49)))
          clear PV
          have PV := PV2
          clear PV2
          refine hK.out _ _ (RowC.of_blk PV.out.box) (fun hS => ?_)
          clear hK Kq
          try simp only [Act.put, List.getElem_toArray, List.getElem_cons_zero, List.getElem_cons_succ, List.setIfInBounds_toArray, List.set_cons_succ, List.set_cons_zero]
          refine wpAnyH_ready (rs := [4]) (by kernel_rfl) (by simp) ?_
          refine AllReadyH.cons rfl (fun Kq hK => ?_) AllReadyH.nil
          refine step_load_one (by rfl) 22 (.tmp 35) rfl ⟨g, 0, none⟩ rfl (.slice A l.length cc) Try.isAgg22 (PV.out.set.blk.cell 0) ?_
          refine hK.out _ _ (RowC.of_blk PV.out.box) (fun hS => ?_)
          clear hK Kq
          try simp only [Act.put, List.getElem_toArray, List.getElem_cons_zero, List.getElem_cons_succ, List.setIfInBounds_toArray, List.set_cons_succ, List.set_cons_zero]
          refine wpAnyH_ready (rs := [8]) (by kernel_rfl) (by simp) ?_
          refine AllReadyH.cons rfl (fun Kq hK => ?_) AllReadyH.nil
          go_simp
          with_reducible refine (cInsert_own base (.slice A l.length cc) l l.length c wd.heap.size _ PV.out.set.o1 HI.out (by have := HLL.out; omega) L1.out HN1.out (Nat.le_trans HB.out PV.out.below.size)).mono ?_
          rintro e w6 ⟨v6, rfl, r6, g6, q6⟩
          have KB6 := Lib.hid (PV.out.set.blk.grown g6 (fun e => own_far PV.out.set.o1 PV.out.set.blk neCS _ e.symm rfl))
          have KX6 := Lib.hid (PV.out.box.grown g6 (fun e => by have := HL1.out _ e.symm; omega))
          have O26 := Lib.hid (own_keep PV.out.set.o2 (fun b hb hlt => g6.block b hlt (fun e => PV.out.set.ne b e.symm hb)))
          have NE6 := Lib.hid (show ∀ k, v6.ownBlock = some k → v2.ownBlock ≠ some k from fun k hk e => by
            rcases q6 with q6 | q6
            · rw [q6] at hk; exact PV.out.set.ne k hk e
            · rw [q6] at hk; have h1 := own_lt PV.out.set.o2 k e; have := Option.some.inj hk; omega)
          have BB6 := Lib.hid (PV.out.below.grown g6 (fun b hb => .inl (.inr (.inl hb))))
          have NW6 := Lib.hid (show v6.ownBlock = (.slice A l.length cc : Value).ownBlock ∨ ∃ k, v6.ownBlock = some k ∧ w.heap.size ≤ k from q6.imp id fun e => ⟨_, e, PV.out.below.size⟩)
          have O16 := Lib.hid r6
          have LOW := Lib.hid PV.out.set.low
          refine hK.out _ _ (RowC.of_blk KX6.out) (fun hS => ?_)
          clear hK Kq r6 g6 q6 PV L1 HN1
          try simp only [Act.put, List.getElem_toArray, List.getElem_cons_zero, List.getElem_cons_succ, List.setIfInBounds_toArray, List.set_cons_succ, List.set_cons_zero]
          refine wpAnyH_take (i := 9) (v := .pointer (some ⟨g, 0, none⟩)) rfl (by kernel_rfl) (by kernel_rfl) (by kernel_rfl) (fun _ _ _ h => h) (Or.inl ⟨by rfl, fun W _ => by go_simp; try with_reducible rfl⟩) hS ?_
          simp only [Act.put, List.getElem_toArray, List.getElem_cons_zero, List.getElem_cons_succ, List.setIfInBounds_toArray, List.set_cons_succ, List.set_cons_zero]
          refine wpAnyH_take (i := 10) (v := .pointer (some ⟨g, 0, none⟩)) rfl (by kernel_rfl) (by kernel_rfl) (by kernel_rfl) (fun _ _ _ h => h) (Or.inl ⟨by rfl, fun W _ => by go_simp; try with_reducible rfl⟩) hS ?_
          simp only [Act.put, List.getElem_toArray, List.getElem_cons_zero, List.getElem_cons_succ, List.setIfInBounds_toArray, List.set_cons_succ, List.set_cons_zero]
          refine wpAnyH_ready (rs := [11]) (by kernel_rfl) (by simp) ?_
          refine AllReadyH.cons rfl (fun Kq hK => ?_) AllReadyH.nil
          refine step_store_cell rfl 22 (.tmp 42) (.tmp 40) rfl rfl g 0 v6 rfl rfl (own_one O16.out) 79 _ KB6.out (by simp) (by kernel_rfl) ?_
          intro w7 o7 b7
          have SV := Lib.hid (show SetV base g fv v6 v2 (insAt l l.length c) q w7 from ⟨b7, LOW.out, own_keep O16.out (fun b hb _ => o7.block b (by have := own_far O16.out KB6.out neCS b hb; simpa using this)), own_keep O26.out (fun b hb _ => o7.block b (by have := own_far O26.out KB6.out neCS b hb; simpa using this)), NE6.out⟩)
          have B7 := Lib.hid (BB6.out.only o7 (.inl (.inl rfl)))
          refine hK.out _ _ (RowC.of_blk (o7.blk KX6.out (by have := GLT.out; intro h; rw [List.mem_singleton] at h; omega))) (fun hS => ?_)
          clear hK Kq o7 b7 KB6 KX6 O16 O26 BB6 NE6
          refine wpAnyH_done (by kernel_rfl) ?_ _
          clear hS
          go_wp2_with fail
          go_ret
          exact ⟨congrArg (fun b => Ending.returned (Value.bool b)) HB0.out, HL0.out ▸ (show PutE base g fv (.slice A l.length cc) v2 (putC CoinV.at_ ltP c l) q w w7 from HPC2.out.symm ▸ ⟨_, SV.out, B7.out, NW6.out⟩)⟩
      · have hil : i = j := by rw [h] at hi; simpa using hi.symm
        subst hil
        rw [h1]
        clear h1 h hi HIX
        have hng : decide ((i : Int) < 0) = false := by simp
        go_wp2_with fail
        clear k2 hng
        have PV := Lib.hid (PK.out.call (Below.refl _ _).drew)
        clear PK
        refine wp_region_held_drew (S := fun V => RowC V w.heap.size 0 (encC c)) (by kernel_rfl) (RowC.of_blk PV.out.box) ?_
        intro hS
        generalize w1.drew = wd at PV hS ⊢
        refine wpAnyH_take (i := 0) (v := .pointer (some ⟨g, 0, none⟩)) rfl (by kernel_rfl) (by kernel_rfl) (by kernel_rfl) (fun _ _ _ h => h) (Or.inl ⟨by rfl, fun W _ => by go_simp; try with_reducible rfl⟩) hS ?_
        simp only [Act.put, List.getElem_toArray, List.getElem_cons_zero, List.setIfInBounds_toArray, List.set_cons_succ, List.set_cons_zero]
        refine wpAnyH_take (i := 1) (v := .pointer (some ⟨g, 0, none⟩)) rfl (by kernel_rfl) (by kernel_rfl) (by kernel_rfl) (fun _ _ _ h => h) (Or.inl ⟨by rfl, fun W _ => by go_simp; try with_reducible rfl⟩) hS ?_
        simp only [Act.put, List.getElem_toArray, List.getElem_cons_zero, List.getElem_cons_succ, List.setIfInBounds_toArray, List.set_cons_succ, List.set_cons_zero]
        refine wpAnyH_take (i := 2) (v := .pointer (some ⟨g, 0, none⟩)) rfl (by kernel_rfl) (by kernel_rfl) (by kernel_rfl) (fun _ _ _ h => h) (Or.inl ⟨by rfl, fun W _ => by go_simp; try with_reducible rfl⟩) hS ?_
        simp only [Act.put, List.getElem_toArray, List.getElem_cons_zero, List.getElem_cons_succ, List.setIfInBounds_toArray, List.set_cons_succ, List.set_cons_zero]
        refine wpAnyH_take (i := 3) (v := .pointer (some ⟨g, 0, none⟩)) rfl (by kernel_rfl) (by kernel_rfl) (by kernel_rfl) (fun _ _ _ h => h) (Or.inl ⟨by rfl, fun W _ => by go_simp; try with_reducible rfl⟩) hS ?_
        simp only [Act.put, List.getElem_toArray, List.getElem_cons_zero, List.getElem_cons_succ, List.setIfInBounds_toArray, List.set_cons_succ, List.set_cons_zero]
        refine wpAnyH_take (i := 5) (v := .int .i64 i) rfl (by kernel_rfl) (by kernel_rfl) (by kernel_rfl) (fun _ _ _ h => h) (Or.inl ⟨by rfl, fun W _ => by go_simp; try with_reducible rfl⟩) hS ?_
        simp only [Act.put, List.getElem_toArray, List.getElem_cons_zero, List.getElem_cons_succ, List.setIfInBounds_toArray, List.set_cons_succ, List.set_cons_zero]
        refine wpAnyH_take (i := 6) (v := .agg (encC c).toArray) rfl (by kernel_rfl) (by kernel_rfl) (by kernel_rfl) (fun _ _ _ h => h) (tyCoc.yieldsIf_load (by rfl) (.tmp 3) rfl w.heap.size 0 rfl c (fun _ h => h)) hS ?_
        simp only [Act.put, List.getElem_toArray, List.getElem_cons_zero, List.getElem_cons_succ, List.setIfInBounds_toArray, List.set_cons_succ, List.set_cons_zero]
        refine wpAnyH_ready (rs := [4, 7]) (by kernel_rfl) (by simp) ?_
        refine AllReadyH.cons rfl (fun Kq hK => ?_) (AllReadyH.cons rfl (fun Kq hK => ?_) AllReadyH.nil)
        · refine step_load_one (by rfl) 22 (.tmp 35) rfl ⟨g, 0, none⟩ rfl (.slice A l.length cc) Try.isAgg22 (PV.out.set.blk.cell 0) ?_
          refine hK.out _ _ (RowC.of_blk PV.out.box) (fun hS => ?_)
          clear hK Kq
          try simp only [Act.put, List.getElem_toArray, List.getElem_cons_zero, List.getElem_cons_succ, List.setIfInBounds_toArray, List.set_cons_succ, List.set_cons_zero]
          refine wpAnyH_ready (rs := [7]) (by kernel_rfl) (by simp) ?_
          refine AllReadyH.cons rfl (fun Kq hK => ?_) AllReadyH.nil
          refine tyCo.step_build rfl czsC 1 _ rfl [c] rfl (by omega) (by omega) (by kernel_rfl) ?_
          have L1 := Lib.hid (Blk.new (wd) 49 (cellsOf encC [c]).toArray)
          have HN1 := Lib.hid (show (.slice A l.length cc : Value).ownBlock ≠ some wd.heap.size from fun e => by have := own_lt PV.out.set.o1 _ e; omega)
          have PV2 := Lib.hid (PV.out.call ((Below.refl _ _).alloc (Nat.le_refl _) (.cells (cellsOf encC [c]).toArray 49)))
          clear PV
          have PV := PV2
          clear PV2
          refine hK.out _ _ (RowC.of_blk PV.out.box) (fun hS => ?_)
          clear hK Kq
          try simp only [Act.put, List.getElem_toArray, List.getElem_cons_zero, List.getElem_cons_succ, List.setIfInBounds_toArray, List.set_cons_succ, List.set_cons_zero]
          refine wpAnyH_ready (rs := [8]) (by kernel_rfl) (by simp) ?_
          refine AllReadyH.cons rfl (fun Kq hK => ?_) AllReadyH.nil
          go_simp
          with_reducible refine (cInsert_own base (.slice A l.length cc) l i c wd.heap.size _ PV.out.set.o1 HI.out (by have := HLL.out; omega) L1.out HN1.out (Nat.le_trans HB.out PV.out.below.size)).mono ?_
          rintro e w6 ⟨v6, rfl, r6, g6, q6⟩
          have KB6 := Lib.hid (PV.out.set.blk.grown g6 (fun e => own_far PV.out.set.o1 PV.out.set.blk neCS _ e.symm rfl))
          have KX6 := Lib.hid (PV.out.box.grown g6 (fun e => by have := HL1.out _ e.symm; omega))
          have O26 := Lib.hid (own_keep PV.out.set.o2 (fun b hb hlt => g6.block b hlt (fun e => PV.out.set.ne b e.symm hb)))
          have NE6 := Lib.hid (show ∀ k, v6.ownBlock = some k → v2.ownBlock ≠ some k from fun k hk e => by
            rcases q6 with q6 | q6
            · rw [q6] at hk; exact PV.out.set.ne k hk e
            · rw [q6] at hk; have h1 := own_lt PV.out.set.o2 k e; have := Option.some.inj hk; omega)
          have BB6 := Lib.hid (PV.out.below.grown g6 (fun b hb => .inl (.inr (.inl hb))))
          have NW6 := Lib.hid (show v6.ownBlock = (.slice A l.length cc : Value).ownBlock ∨ ∃ k, v6.ownBlock = some k ∧ w.heap.size ≤ k from q6.imp id fun e => ⟨_, e, PV.out.below.size⟩)
          have O16 := Lib.hid r6
          have LOW := Lib.hid PV.out.set.low
          refine hK.out _ _ (RowC.of_blk KX6.out) (fun hS => ?_)
          clear hK Kq r6 g6 q6 PV L1 HN1
          try simp only [Act.put, List.getElem_toArray, List.getElem_cons_zero, List.getElem_cons_succ, List.setIfInBounds_toArray, List.set_cons_succ, List.set_cons_zero]
          refine wpAnyH_take (i := 9) (v := .pointer (some ⟨g, 0, none⟩)) rfl (by kernel_rfl) (by kernel_rfl) (by kernel_rfl) (fun _ _ _ h => h) (Or.inl ⟨by rfl, fun W _ => by go_simp; try with_reducible rfl⟩) hS ?_
          simp only [Act.put, List.getElem_toArray, List.getElem_cons_zero, List.getElem_cons_succ, List.setIfInBounds_toArray, List.set_cons_succ, List.set_cons_zero]
          refine wpAnyH_take (i := 10) (v := .pointer (some ⟨g, 0, none⟩)) rfl (by kernel_rfl) (by kernel_rfl) (by kernel_rfl) (fun _ _ _ h => h) (Or.inl ⟨by rfl, fun W _ => by go_simp; try with_reducible rfl⟩) hS ?_
          simp only [Act.put, List.getElem_toArray, List.getElem_cons_zero, List.getElem_cons_succ, List.setIfInBounds_toArray, List.set_cons_succ, List.set_cons_zero]
          refine wpAnyH_ready (rs := [11]) (by kernel_rfl) (by simp) ?_
          refine AllReadyH.cons rfl (fun Kq hK => ?_) AllReadyH.nil
          refine step_store_cell rfl 22 (.tmp 42) (.tmp 40) rfl rfl g 0 v6 rfl rfl (own_one O16.out) 79 _ KB6.out (by simp) (by kernel_rfl) ?_
          intro w7 o7 b7
          have SV := Lib.hid (show SetV base g fv v6 v2 (insAt l i c) q w7 from ⟨b7, LOW.out, own_keep O16.out (fun b hb _ => o7.block b (by have := own_far O16.out KB6.out neCS b hb; simpa using this)), own_keep O26.out (fun b hb _ => o7.block b (by have := own_far O26.out KB6.out neCS b hb; simpa using this)), NE6.out⟩)
          have B7 := Lib.hid (BB6.out.only o7 (.inl (.inl rfl)))
          refine hK.out _ _ (RowC.of_blk (o7.blk KX6.out (by have := GLT.out; intro h; rw [List.mem_singleton] at h; omega))) (fun hS => ?_)
          clear hK Kq o7 b7 KB6 KX6 O16 O26 BB6 NE6
          refine wpAnyH_done (by kernel_rfl) ?_ _
          clear hS
          go_wp2_with fail
          go_ret
          exact ⟨congrArg (fun b => Ending.returned (Value.bool b)) HB0.out, HL0.out ▸ (show PutE base g fv (.slice A l.length cc) v2 (putC CoinV.at_ ltP c l) q w w7 from HPC2.out.symm ▸ ⟨_, SV.out, B7.out, NW6.out⟩)⟩
        · refine tyCo.step_build rfl czsC 1 _ rfl [c] rfl (by omega) (by omega) (by kernel_rfl) ?_
          have L1 := Lib.hid (Blk.new (wd) 49 (cellsOf encC [c]).toArray)
          have HN1 := Lib.hid (show (.slice A l.length cc : Value).ownBlock ≠ some wd.heap.size from fun e => by have := own_lt PV.out.set.o1 _ e; omega)
          have PV2 := Lib.hid (PV.out.call ((Below.refl _ _).alloc (Nat.le_refl _) (.cells (cellsOf encC [c]).toArray 49)))
          clear PV
          have PV := PV2
          clear PV2
          refine hK.out _ _ (RowC.of_blk PV.out.box) (fun hS => ?_)
          clear hK Kq
          try simp only [Act.put, List.getElem_toArray, List.getElem_cons_zero, List.getElem_cons_succ, List.setIfInBounds_toArray, List.set_cons_succ, List.set_cons_zero]
          refine wpAnyH_ready (rs := [4]) (by kernel_rfl) (by simp) ?_
          refine AllReadyH.cons rfl (fun Kq hK => ?_) AllReadyH.nil
          refine step_load_one (by rfl) 22 (.tmp 35) rfl ⟨g, 0, none⟩ rfl (.slice A l.length cc) Try.isAgg22 (PV.out.set.blk.cell 0) ?_
          refine hK.out _ _ (RowC.of_blk PV.out.box) (fun hS => ?_)
          clear hK Kq
          try simp only [Act.put, List.getElem_toArray, List.getElem_cons_zero, List.getElem_cons_succ, List.setIfInBounds_toArray, List.set_cons_succ, List.set_cons_zero]
          refine wpAnyH_ready (rs := [8]) (by kernel_rfl) (by simp) ?_
          refine AllReadyH.cons rfl (fun Kq hK => ?_) AllReadyH.nil
          go_simp
          with_reducible refine (cInsert_own base (.slice A l.length cc) l i c wd.heap.size _ PV.out.set.o1 HI.out (by have := HLL.out; omega) L1.out HN1.out (Nat.le_trans HB.out PV.out.below.size)).mono ?_
          rintro e w6 ⟨v6, rfl, r6, g6, q6⟩
          have KB6 := Lib.hid (PV.out.set.blk.grown g6 (fun e => own_far PV.out.set.o1 PV.out.set.blk neCS _ e.symm rfl))
          have KX6 := Lib.hid (PV.out.box.grown g6 (fun e => by have := HL1.out _ e.symm; omega))
          have O26 := Lib.hid (own_keep PV.out.set.o2 (fun b hb hlt => g6.block b hlt (fun e => PV.out.set.ne b e.symm hb)))
          have NE6 := Lib.hid (show ∀ k, v6.ownBlock = some k → v2.ownBlock ≠ some k from fun k hk e => by
            rcases q6 with q6 | q6
            · rw [q6] at hk; exact PV.out.set.ne k hk e
            · rw [q6] at hk; have h1 := own_lt PV.out.set.o2 k e; have := Option.some.inj hk; omega)
          have BB6 := Lib.hid (PV.out.below.grown g6 (fun b hb => .inl (.inr (.inl hb))))
          have NW6 := Lib.hid (show v6.ownBlock = (.slice A l.length cc : Value).ownBlock ∨ ∃ k, v6.ownBlock = some k ∧ w.heap.size ≤ k from q6.imp id fun e => ⟨_, e, PV.out.below.size⟩)
          have O16 := Lib.hid r6
          have LOW := Lib.hid PV.out.set.low
          refine hK.out _ _ (RowC.of_blk KX6.out) (fun hS => ?_)
          clear hK Kq r6 g6 q6 PV L1 HN1
          try simp only [Act.put, List.getElem_toArray, List.getElem_cons_zero, List.getElem_cons_succ, List.setIfInBounds_toArray, List.set_cons_succ, List.set_cons_zero]
          refine wpAnyH_take (i := 9) (v := .pointer (some ⟨g, 0, none⟩)) rfl (by kernel_rfl) (by kernel_rfl) (by kernel_rfl) (fun _ _ _ h => h) (Or.inl ⟨by rfl, fun W _ => by go_simp; try with_reducible rfl⟩) hS ?_
          simp only [Act.put, List.getElem_toArray, List.getElem_cons_zero, List.getElem_cons_succ, List.setIfInBounds_toArray, List.set_cons_succ, List.set_cons_zero]
          refine wpAnyH_take (i := 10) (v := .pointer (some ⟨g, 0, none⟩)) rfl (by kernel_rfl) (by kernel_rfl) (by kernel_rfl) (fun _ _ _ h => h) (Or.inl ⟨by rfl, fun W _ => by go_simp; try with_reducible rfl⟩) hS ?_
          simp only [Act.put, List.getElem_toArray, List.getElem_cons_zero, List.getElem_cons_succ, List.setIfInBounds_toArray, List.set_cons_succ, List.set_cons_zero]
          refine wpAnyH_ready (rs := [11]) (by kernel_rfl) (by simp) ?_
          refine AllReadyH.cons rfl (fun Kq hK => ?_) AllReadyH.nil
          refine step_store_cell rfl 22 (.tmp 42) (.tmp 40) rfl rfl g 0 v6 rfl rfl (own_one O16.out) 79 _ KB6.out (by simp) (by kernel_rfl) ?_
          intro w7 o7 b7
          have SV := Lib.hid (show SetV base g fv v6 v2 (insAt l i c) q w7 from ⟨b7, LOW.out, own_keep O16.out (fun b hb _ => o7.block b (by have := own_far O16.out KB6.out neCS b hb; simpa using this)), own_keep O26.out (fun b hb _ => o7.block b (by have := own_far O26.out KB6.out neCS b hb; simpa using this)), NE6.out⟩)
          have B7 := Lib.hid (BB6.out.only o7 (.inl (.inl rfl)))
          refine hK.out _ _ (RowC.of_blk (o7.blk KX6.out (by have := GLT.out; intro h; rw [List.mem_singleton] at h; omega))) (fun hS => ?_)
          clear hK Kq o7 b7 KB6 KX6 O16 O26 BB6 NE6
          refine wpAnyH_done (by kernel_rfl) ?_ _
          clear hS
          go_wp2_with fail
          go_ret
          exact ⟨congrArg (fun b => Ending.returned (Value.bool b)) HB0.out, HL0.out ▸ (show PutE base g fv (.slice A l.length cc) v2 (putC CoinV.at_ ltP c l) q w w7 from HPC2.out.symm ▸ ⟨_, SV.out, B7.out, NW6.out⟩)⟩
end Go.Proofs.Ytkjgmhamglhggaa
