/- The project's all, over take and over put. Written by genCoPW.py. -/
import Derived.Test.YtkjgmhamglhggaaCoPV
namespace Go.Proofs.Ytkjgmhamglhggaa
open Go.RowKit
/-- a set lies so, apart from the blocks K -/
def SetK (K : List Nat) (base g : Nat) (fv : Value) (l q : List CoinV) (w : World) : Prop := ∃ v1 v2, SetV base g fv v1 v2 l q w ∧ ∀ b ∈ K, b < w.heap.size ∧ ¬ InSet g v1 v2 b
def Kept (K : List Nat) (w w' : World) : Prop := ∀ b ∈ K, b < w.heap.size → w'.heap[b]? = w.heap[b]?
theorem Kept.refl (K : List Nat) (w : World) : Kept K w w := fun _ _ _ => rfl
theorem Kept.trans {K : List Nat} {a b c : World} (h : Kept K a b) (k : Kept K b c) (hs : a.heap.size ≤ b.heap.size) : Kept K a c := fun x hx hl => (k x hx (by omega)).trans (h x hx hl)
theorem Kept.of_below {K : List Nat} {a b : World} (h : Below a.heap.size a b) : Kept K a b := fun x _ hl => h.block x hl
theorem SetK.below {K : List Nat} {base g : Nat} {fv : Value} {l q : List CoinV} {w w' : World} (h : SetK K base g fv l q w) (hb : Below w.heap.size w w') : SetK K base g fv l q w' := by
  obtain ⟨v1, v2, h, k⟩ := h
  exact ⟨v1, v2, h.below hb, fun b hB => ⟨Nat.lt_of_lt_of_le (k b hB).1 hb.size, (k b hB).2⟩⟩
theorem SetK.base_le {K : List Nat} {base g : Nat} {fv : Value} {l q : List CoinV} {w : World} (h : SetK K base g fv l q w) : base ≤ w.heap.size := by
  obtain ⟨v1, v2, h, k⟩ := h
  have := h.low
  have := h.blk.lt
  omega
/-- the step of a set -/
theorem setK_step {K : List Nat} {base g : Nat} {fv v1 v2 v1' v2' : Value} {l q : List CoinV} {w w' : World} (h' : SetV base g fv v1' v2' l q w') (f : Fr (InSet g v1 v2) w w') (k : ∀ b ∈ K, b < w.heap.size ∧ ¬ InSet g v1 v2 b)
    (h1 : v1'.ownBlock = v1.ownBlock ∨ ∃ k, v1'.ownBlock = some k ∧ w.heap.size ≤ k) (h2 : v2'.ownBlock = v2.ownBlock ∨ ∃ k, v2'.ownBlock = some k ∧ w.heap.size ≤ k) : SetK K base g fv l q w' ∧ Kept K w w' := by
  refine ⟨⟨v1', v2', h', fun b hb => ⟨Nat.lt_of_lt_of_le (k b hb).1 f.size, ?_⟩⟩, fun b hb hl => f.block b hl (k b hb).2⟩
  have kb := k b hb
  rintro (rfl | hx | hx)
  · exact kb.2 (.inl rfl)
  · rcases h1 with h1 | ⟨j, h1, hj⟩
    · exact kb.2 (.inr (.inl (h1 ▸ hx)))
    · rw [h1] at hx
      have := Option.some.inj hx
      omega
  · rcases h2 with h2 | ⟨j, h2, hj⟩
    · exact kb.2 (.inr (.inr (h2 ▸ hx)))
    · rw [h2] at hx
      have := Option.some.inj hx
      omega
def takeO (r : CoinV → Bool) (p : PtV) (l q : List CoinV) : Option (List CoinV × List CoinV) := (l.find? (takP p r)).map fun c => (l.eraseP (takP p r), q ++ [c])
def takeQ (r : CoinV → Bool) : List CoinV → List CoinV → List PtV → Option (List CoinV × List CoinV)
  | l, q, [] => some (l, q)
  | l, q, p :: ps => match takeO r p l q with
    | none => none
    | some x => takeQ r x.1 x.2 ps
theorem takeO_len {r : CoinV → Bool} {p : PtV} {l q : List CoinV} : ((takeO r p l q).getD (l, q)).1.length ≤ l.length ∧ ((takeO r p l q).getD (l, q)).2.length ≤ q.length + 1 := by
  unfold takeO
  cases l.find? (takP p r) with
  | none => simp
  | some c => exact ⟨List.length_eraseP_le, by simp⟩
/-- take, of a set that lies apart from the blocks K -/
theorem take_k (K : List Nat) (base g gf : Nat) (cb : Array Value) (r : CoinV → Bool) (l q : List CoinV) (p : PtV) (w : World) (hs : SetK K base g (.func (.func gf) #[] cb) l q w)
    (eg : ∀ args w, (callFunc gf args).run Try.prog w = .ok (.enter gf args) w) (hm : ∀ c V, Below base w V → Calls Try.prog gf (#[.agg (encC c).toArray] ++ cb) V fun e w' => e = .returned (.bool (r c)) ∧ Below V.heap.size V w') (hl : l.length ≤ 1000) (hq : q.length ≤ 1000) :
    Calls Try.prog 28 #[.pointer (some ⟨g, 0, none⟩), .agg (encKI .u32 p).toArray] w fun e w' => e = .returned (.bool (takeO r p l q).isSome) ∧ SetK K base g (.func (.func gf) #[] cb) ((takeO r p l q).getD (l, q)).1 ((takeO r p l q).getD (l, q)).2 w' ∧ Below base w w' ∧ Kept K w w' := by
  obtain ⟨v1, v2, h, k⟩ := hs
  have hB : base ≤ w.heap.size := by have := h.low; have := h.blk.lt; omega
  rcases firstCo_of (takP p r) l with ⟨h1, h2, _⟩ | ⟨j, hj, h1, h2, h3, _⟩
  · refine (take_not base g gf cb r v1 v2 l q p w h eg hm hl h1).mono ?_
    rintro e w' ⟨rfl, s, b⟩
    unfold takeO
    rw [h2]
    exact ⟨rfl, ⟨v1, v2, s, fun x hx => ⟨Nat.lt_of_lt_of_le (k x hx).1 b.size, (k x hx).2⟩⟩, b.mono hB, Kept.of_below b⟩
  · refine (take_is base g gf cb r v1 v2 l q p w h eg hm hl hq j hj h1).mono ?_
    rintro e w' ⟨v1', v2', rfl, s, f, e1, e2⟩
    have := setK_step s f k (.inl e1) e2
    unfold takeO
    rw [h2]
    exact ⟨rfl, by show SetK K base g _ (l.eraseP (takP p r)) (q ++ [l[j]]) w'; rw [h3]; exact this.1, f.below h.in_low hB, this.2⟩
def putO (c : CoinV) (l : List CoinV) : List CoinV := if (findK l c.at_).isNone then putC CoinV.at_ ltP c l else l
theorem put_k (K : List Nat) (base g : Nat) (fv : Value) (l q : List CoinV) (c : CoinV) (w : World) (hs : SetK K base g fv l q w) (hl : l.length ≤ 1000) :
    Calls Try.prog 31 #[.pointer (some ⟨g, 0, none⟩), .agg (encC c).toArray] w fun e w' => e = .returned (.bool (findK l c.at_).isNone) ∧ SetK K base g fv (putO c l) q w' ∧ Below base w w' ∧ Kept K w w' := by
  obtain ⟨v1, v2, h, k⟩ := hs
  have hB : base ≤ w.heap.size := by have := h.low; have := h.blk.lt; omega
  refine (coput_any base g fv v1 v2 l q c w h hl).mono ?_
  rintro e w' ⟨rfl, v1', s, f, e1⟩
  have := setK_step s f k e1 (.inl rfl)
  exact ⟨rfl, this.1, f.below h.in_low hB, this.2⟩
theorem zeroPt_ok : ((Try.prog.info? 32).bind (·.zero)) = some (.agg (encKI .u32 (zeroKey, ⟨0, by decide⟩)).toArray) := by kernel_rfl
theorem zeroPt_size : (encKI .u32 ((zeroKey, ⟨0, by decide⟩) : PtV)).toArray.size = 32 + 1 := by rw [List.size_toArray, encKI_len]
set_option maxRecDepth 20000 in
set_option maxHeartbeats 4000000 in
theorem all_take (K : List Nat) (base g : Nat) (gf : Nat) (cb : Array Value) (r : CoinV → Bool) (l q : List CoinV) (ps : List PtV) (A : Option Addr) (c : Nat) (w : World) (hs : SetK K base g (.func (.func gf) #[] cb) l q w) (eg : ∀ args w, (callFunc gf args).run Try.prog w = .ok (.enter gf args) w) (hm : ∀ c V, Below base w V → Calls Try.prog gf (#[.agg (encC c).toArray] ++ cb) V fun e w' => e = .returned (.bool (r c)) ∧ Below V.heap.size V w') (hl : l.length ≤ 400) (hq : q.length ≤ 400) (hrow : ∀ W, Below base w W → Kept K w W → RowIn (encKI .u32) 33 W W.heap.size A c ps) (hps : ps.length ≤ 400) :
    Calls Try.prog 27 #[.slice A ps.length c, .func (.func 28) #[.pointer (some ⟨g, 0, none⟩)] #[]] w fun e w' => e = .returned (.bool (takeQ r l q ps).isSome) ∧ (∃ l' q', SetK K base g (.func (.func gf) #[] cb) l' q' w' ∧ ∀ x, takeQ r l q ps = some x → x = (l', q')) ∧ Below base w w' ∧ Kept K w w' := by
  obtain ⟨Z, hZ, hz, hzs, hzn⟩ := zero_of zeroPt_ok zeroPt_size
  have HZS := Lib.hid hzs
  have HS := Lib.hid hs
  have HR := Lib.hid hrow
  have HB := Lib.hid hs.base_le
  have HT := Lib.hid (show ∀ (l' q' : List CoinV) (x : PtV) (W : World), SetK K base g (.func (.func gf) #[] cb) l' q' W → Below base w W → l'.length ≤ 1000 → q'.length ≤ 1000 → Calls Try.prog 28 #[.pointer (some ⟨g, 0, none⟩), .agg (encKI .u32 x).toArray] W fun e w' => e = .returned (.bool (takeO r x l' q').isSome) ∧ SetK K base g (.func (.func gf) #[] cb) ((takeO r x l' q').getD (l', q')).1 ((takeO r x l' q').getD (l', q')).2 w' ∧ Below base W w' ∧ Kept K W w' from
    fun l' q' x W h1 h2 h3 h4 => take_k K base g gf cb r l' q' x W h1 eg (fun c V hV => hm c V (h2.trans hV)) h3 h4)
  have HL := Lib.hid hl
  have HQ0 := Lib.hid hq
  clear eg hm
  have hm0 : ps.length ≤ 9223372036854775807 := by omega
  clear hs hrow hZ hzs
  go_enter Try.func27, Try.ntmps27
  go_wp2_with fail
  go_loopw [9] (fun si wr => ∃ (j : Nat) (l' q' : List CoinV), si = .int .i64 j ∧ j ≤ ps.length ∧ Hid (takeQ r l q ps = takeQ r l' q' (ps.drop j)) ∧ Hid (l'.length ≤ 400 ∧ q'.length ≤ 400 + j) ∧ Hid (SetK K base g (.func (.func gf) #[] cb) l' q' wr) ∧ Hid (Below base w wr) ∧ Hid (Kept K w wr)) (fun si _ => ps.length - (intOf si).toNat)
  case atStart => exact ⟨0, l, q, rfl, Nat.zero_le _, Lib.hid rfl, Lib.hid ⟨hl, by omega⟩, HS, Lib.hid ((Below.refl _ _).mono HB.out), Lib.hid (Kept.refl _ _)⟩
  case round =>
    obtain ⟨j, l', q', rfl, hj, HQ, HLN, HSK, HBL, HKE⟩ := hrel
    by_cases hlt : j < ps.length
    · have hd : decide ((j : Int) < (ps.length : Int)) = true := by simp; omega
      have hi0 : (0 : Int) ≤ (j : Int) := by omega
      have hi1 : (j : Int) < (ps.length : Int) := by omega
      obtain ⟨gp, op, hA, hgp, hcp⟩ := (HR.out wr HBL.out HKE.out).at (encKI_len _) hlt
      obtain ⟨x, hx⟩ : ∃ x, ps[j]'hlt = x := ⟨_, rfl⟩
      rw [hx] at hcp
      subst hA
      have HX := Lib.hid hcp
      have HXG := Lib.hid hgp
      have HDX := Lib.hid (show ps.drop j = x :: ps.drop (j + 1) by rw [← hx]; exact List.drop_eq_getElem_cons hlt)
      have HJ := Lib.hid (And.intro hj hlt)
      clear hx hcp hgp
      go_wp2_with (first
        | ((with_reducible refine at_load 11 ?_); refine tyPt.wpList_load rfl (.tmp 11) rfl gp (op + j * 33) rfl x (fun i v hi => (World.cell?_alloc_lt wr _ _ HXG.out).trans (HX.out i v hi)) ?_)
        | ((with_reducible refine at_load 11 ?_); refine tyPt.wpList_load rfl (.tmp 11) rfl gp (op + j * 33) rfl x HX.out ?_)
        | ((with_reducible refine at_store 6 12 ?_); refine tyPc.wpList_store rfl (.tmp 6) (.tmp 12) rfl rfl wr.heap.size x rfl rfl _ _ (Blk.new wr _ Z) (by rw [HZS.out]) ?_; intro w2 o2 b2
           have K2 := Lib.hid b2
           have B2 := Lib.hid (show Below wr.heap.size wr w2 from ((Below.refl _ _).alloc (Nat.le_refl _) _).trans (o2.below (by simp)))
           have S2 := Lib.hid (HSK.out.below B2.out)
           clear o2 b2)
        | ((with_reducible refine at_load 6 ?_); refine tyPc.wpList_load rfl (.tmp 6) rfl wr.heap.size 0 rfl x (RowC.of_blk K2.out) ?_))
      refine (HT.out _ _ x _ S2.out (HBL.out.trans (B2.out.mono (Nat.le_trans HB.out HBL.out.size))) (by have := HLN.out; omega) (by have := HLN.out; omega)).mono ?_
      rintro e w3 ⟨rfl, s3, b3, k3⟩
      have S3 := Lib.hid s3
      have B3 := Lib.hid (HBL.out.trans ((B2.out.mono (Nat.le_trans HB.out HBL.out.size)).trans b3))
      have K3 := Lib.hid (HKE.out.trans ((Kept.of_below B2.out).trans k3 B2.out.size) HBL.out.size)
      clear s3 b3 k3 S2 B2 K2 HSK HBL HKE
      have HTL := Lib.hid (takeO_len (r := r) (p := x) (l := l') (q := q'))
      obtain ⟨f, hf⟩ : ∃ f, takeO r x l' q' = f := ⟨_, rfl⟩
      rw [hf] at HTL S3 ⊢
      have HF := Lib.hid hf
      clear hf
      cases f with
      | none =>
        go_wp2_with fail
        go_ret
        have hq2 : takeQ r l q ps = none := by
          rw [HQ.out, HDX.out]
          unfold takeQ
          rw [HF.out]
        rw [hq2]
        exact ⟨rfl, ⟨l', q', S3.out, fun x h => by cases h⟩, B3.out, K3.out⟩
      | some y =>
        have HQ2 := Lib.hid (show takeQ r l q ps = takeQ r y.1 y.2 (ps.drop (j + 1)) by
          rw [HQ.out, HDX.out]
          conv => lhs; unfold takeQ
          rw [HF.out])
        have HLN2 := Lib.hid (show y.1.length ≤ 400 ∧ y.2.length ≤ 400 + (j + 1) by
          have h1 := HTL.out
          have h2 := HLN.out
          simp only [Option.getD_some] at h1
          omega)
        have S4 := Lib.hid (show SetK K base g (.func (.func gf) #[] cb) y.1 y.2 w3 from S3.out)
        clear HQ HTL HLN S3 HF HDX
        go_wp2_with fail
        go_roundw
        case rel => exact ⟨j + 1, y.1, y.2, by go_num, HJ.out.2, HQ2, HLN2, S4, B3, K3⟩
        case measure => have := HJ.out; simp [intOf]; omega
    · have hd : decide ((j : Int) < (ps.length : Int)) = false := by simp; omega
      have hjl : j = ps.length := by omega
      subst hjl
      have HE := Lib.hid (show takeQ r l q ps = some (l', q') by
        rw [HQ.out, List.drop_length]
        rfl)
      go_wp2_with fail
      go_ret
      rw [HE.out]
      exact ⟨rfl, ⟨l', q', HSK.out, fun x h => (Option.some.inj h).symm⟩, HBL.out, HKE.out⟩
set_option maxRecDepth 20000 in
set_option maxHeartbeats 4000000 in
theorem all_put (K : List Nat) (base g : Nat) (fv : Value) (l q : List CoinV) (ps : List CoinV) (A : Option Addr) (c : Nat) (w : World) (hs : SetK K base g fv l q w) (hl : l.length ≤ 400) (hrow : ∀ W, Below base w W → Kept K w W → RowIn encC 68 W W.heap.size A c ps) (hps : ps.length ≤ 400) :
    Calls Try.prog 29 #[.slice A ps.length c, .func (.func 31) #[.pointer (some ⟨g, 0, none⟩)] #[]] w fun e w' => e = .returned (.bool (addC CoinV.at_ ltP l ps).isSome) ∧ (∃ l', SetK K base g fv l' q w' ∧ ∀ x, addC CoinV.at_ ltP l ps = some x → x = l') ∧ Below base w w' ∧ Kept K w w' := by
  obtain ⟨Z, hZ, hz, hzs, hzn⟩ := zero_of zeroCo_ok zeroC_size
  have HZS := Lib.hid hzs
  have HS := Lib.hid hs
  have HR := Lib.hid hrow
  have HB := Lib.hid hs.base_le
  have HT := Lib.hid (show ∀ (l' : List CoinV) (x : CoinV) (W : World), SetK K base g fv l' q W → l'.length ≤ 1000 → Calls Try.prog 31 #[.pointer (some ⟨g, 0, none⟩), .agg (encC x).toArray] W fun e w' => e = .returned (.bool (findK l' x.at_).isNone) ∧ SetK K base g fv (putO x l') q w' ∧ Below base W w' ∧ Kept K W w' from
    fun l' x W h1 h2 => put_k K base g fv l' q x W h1 h2)
  have hm0 : ps.length ≤ 9223372036854775807 := by omega
  clear hs hrow hZ hzs
  go_enter Try.func29, Try.ntmps29
  go_wp2_with fail
  go_loopw [9] (fun si wr => ∃ (j : Nat) (l' : List CoinV), si = .int .i64 j ∧ j ≤ ps.length ∧ Hid (addC CoinV.at_ ltP l ps = addC CoinV.at_ ltP l' (ps.drop j)) ∧ Hid (l'.length ≤ 400 + j) ∧ Hid (SetK K base g fv l' q wr) ∧ Hid (Below base w wr) ∧ Hid (Kept K w wr)) (fun si _ => ps.length - (intOf si).toNat)
  case atStart => exact ⟨0, l, rfl, Nat.zero_le _, Lib.hid rfl, Lib.hid (by omega), HS, Lib.hid ((Below.refl _ _).mono HB.out), Lib.hid (Kept.refl _ _)⟩
  case round =>
    obtain ⟨j, l', rfl, hj, HQ, HLN, HSK, HBL, HKE⟩ := hrel
    by_cases hlt : j < ps.length
    · have hd : decide ((j : Int) < (ps.length : Int)) = true := by simp; omega
      have hi0 : (0 : Int) ≤ (j : Int) := by omega
      have hi1 : (j : Int) < (ps.length : Int) := by omega
      obtain ⟨gp, op, hA, hgp, hcp⟩ := (HR.out wr HBL.out HKE.out).at (encC_len) hlt
      obtain ⟨x, hx⟩ : ∃ x, ps[j]'hlt = x := ⟨_, rfl⟩
      rw [hx] at hcp
      subst hA
      have HX := Lib.hid hcp
      have HXG := Lib.hid hgp
      have HDX := Lib.hid (show ps.drop j = x :: ps.drop (j + 1) by rw [← hx]; exact List.drop_eq_getElem_cons hlt)
      have HJ := Lib.hid (And.intro hj hlt)
      clear hx hcp hgp
      go_wp2_with (first
        | ((with_reducible refine at_load 11 ?_); refine tyCo.wpList_load rfl (.tmp 11) rfl gp (op + j * 68) rfl x (fun i v hi => (World.cell?_alloc_lt wr _ _ HXG.out).trans (HX.out i v hi)) ?_)
        | ((with_reducible refine at_load 11 ?_); refine tyCo.wpList_load rfl (.tmp 11) rfl gp (op + j * 68) rfl x HX.out ?_)
        | ((with_reducible refine at_store 6 12 ?_); refine tyCoc.wpList_store rfl (.tmp 6) (.tmp 12) rfl rfl wr.heap.size x rfl rfl _ _ (Blk.new wr _ Z) (by rw [HZS.out]) ?_; intro w2 o2 b2
           have K2 := Lib.hid b2
           have B2 := Lib.hid (show Below wr.heap.size wr w2 from ((Below.refl _ _).alloc (Nat.le_refl _) _).trans (o2.below (by simp)))
           have S2 := Lib.hid (HSK.out.below B2.out)
           clear o2 b2)
        | ((with_reducible refine at_load 6 ?_); refine tyCoc.wpList_load rfl (.tmp 6) rfl wr.heap.size 0 rfl x (RowC.of_blk K2.out) ?_))
      refine (HT.out _ x _ S2.out (by have := HLN.out; have := HJ.out; omega)).mono ?_
      rintro e w3 ⟨rfl, s3, b3, k3⟩
      have S3 := Lib.hid s3
      have B3 := Lib.hid (HBL.out.trans ((B2.out.mono (Nat.le_trans HB.out HBL.out.size)).trans b3))
      have K3 := Lib.hid (HKE.out.trans ((Kept.of_below B2.out).trans k3 B2.out.size) HBL.out.size)
      clear s3 b3 k3 S2 B2 K2 HSK HBL HKE
      obtain ⟨f, hf⟩ : ∃ f, findK l' x.at_ = f := ⟨_, rfl⟩
      have HF := Lib.hid hf
      have HPO := Lib.hid (show putO x l' = if f.isNone then putC CoinV.at_ ltP x l' else l' by unfold putO; rw [hf])
      rw [hf]
      rw [HPO.out] at S3
      clear hf
      cases f with
      | some d =>
        go_wp2_with fail
        go_ret
        have hq2 : addC CoinV.at_ ltP l ps = none := by
          rw [HQ.out, HDX.out]
          unfold addC
          rw [if_pos (by show (findK l' x.at_).isSome = true; rw [HF.out]; rfl)]
        rw [hq2]
        exact ⟨rfl, ⟨l', S3.out, fun x h => by cases h⟩, B3.out, K3.out⟩
      | none =>
        have HQ2 := Lib.hid (show addC CoinV.at_ ltP l ps = addC CoinV.at_ ltP (putC CoinV.at_ ltP x l') (ps.drop (j + 1)) by
          rw [HQ.out, HDX.out]
          conv => lhs; unfold addC
          rw [if_neg (by show ¬ (findK l' x.at_).isSome = true; rw [HF.out]; simp)])
        have HLN2 := Lib.hid (show (putC CoinV.at_ ltP x l').length ≤ 400 + (j + 1) by
          rw [putC_len]
          have h2 := HLN.out
          omega)
        have S4 := Lib.hid (show SetK K base g fv (putC CoinV.at_ ltP x l') q w3 from S3.out)
        clear HQ HLN S3 HF HDX HPO
        go_wp2_with fail
        go_roundw
        case rel => exact ⟨j + 1, _, by go_num, HJ.out.2, HQ2, HLN2, S4, B3, K3⟩
        case measure => have := HJ.out; simp [intOf]; omega
    · have hd : decide ((j : Int) < (ps.length : Int)) = false := by simp; omega
      have hjl : j = ps.length := by omega
      subst hjl
      have HE := Lib.hid (show addC CoinV.at_ ltP l ps = some l' by
        rw [HQ.out, List.drop_length]
        rfl)
      go_wp2_with fail
      go_ret
      rw [HE.out]
      exact ⟨rfl, ⟨l', HSK.out, fun x h => (Option.some.inj h).symm⟩, HBL.out, HKE.out⟩
end Go.Proofs.Ytkjgmhamglhggaa
