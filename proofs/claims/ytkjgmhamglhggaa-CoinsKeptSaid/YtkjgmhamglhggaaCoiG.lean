/- The document's Undo of coins. -/
import Derived.Test.YtkjgmhamglhggaaCoiF
namespace Go.Proofs.Ytkjgmhamglhggaa
open Go.RowKit
/-- the points of a transaction's outs, the last one first -/
def ptsR (id : K32) : Nat → List PtV
  | 0 => []
  | k + 1 => (id, toU32 k) :: ptsR id k
def endA (r : Option (List CoinV)) : Except Int (List CoinV) := match r with
  | none => .error 4
  | some r => .ok r
def backU (sp : List CoinV) (r : Option (List CoinV)) : Except Int (List CoinV) := match r with
  | none => .error 3
  | some m => endA (addC CoinV.at_ ltP m sp.reverse)
def undoF (l : List CoinV) (id : K32) (n : Nat) (sp : List CoinV) : Except Int (List CoinV) := backU sp (remC CoinV.at_ l (ptsR id n))
def EndU (w : World) (x : Except Int (List CoinV)) (e : Ending) (w' : World) : Prop :=
  Below w.heap.size w w' ∧ match x with
    | .error z => e = .returned (.tuple #[.slice none 0 0, .int .i64 z])
    | .ok m => ∃ A' c', e = .returned (.tuple #[.slice A' m.length c', .int .i64 0]) ∧ RowIn encC 68 w' w'.heap.size A' c' m
theorem rem_no {m : List CoinV} {p : PtV} {ps : List PtV} (h : findK m p = none) : remC CoinV.at_ m (p :: ps) = none := by
  show (if (findK m p).isSome then _ else _) = _
  rw [h]
  rfl
theorem rem_yes {m m' : List CoinV} {p : PtV} {ps : List PtV} {x : CoinV} (h : findK m p = some x) (hd : delC CoinV.at_ m p = m') : remC CoinV.at_ m (p :: ps) = remC CoinV.at_ m' ps := by
  show (if (findK m p).isSome then _ else _) = _
  rw [h, if_pos (show (some x).isSome = true from rfl), hd]
theorem add_no {m : List CoinV} {c x : CoinV} {cs : List CoinV} (h : findK m c.at_ = some x) : addC CoinV.at_ ltP m (c :: cs) = none := by
  show (if (findK m c.at_).isSome then _ else _) = _
  rw [h]
  rfl
theorem add_yes {m : List CoinV} {c : CoinV} {cs : List CoinV} (h : findK m c.at_ = none) : addC CoinV.at_ ltP m (c :: cs) = addC CoinV.at_ ltP (putP c m) cs := by
  show (if (findK m c.at_).isSome then _ else _) = _
  rw [h]
  rfl
theorem take_rev {sp : List CoinV} {k : Nat} {x : CoinV} (h : k < sp.length) (hx : sp[k]'h = x) : (sp.take (k + 1)).reverse = x :: (sp.take k).reverse := by
  rw [List.take_succ_eq_append_getElem h, hx, List.reverse_append]
  rfl
theorem cbuilt_KI (t : TypeId) (ht : t = 32) (k : K32) (z : IntV .u32) : Try.prog.built t [(0, .agg (encK k).toArray), (1, .int .u32 z.1)] = some (encKI .u32 (k, z)).toArray := by
  subst ht
  obtain ⟨l, hl⟩ := k
  iterate 32 (rcases l with _ | ⟨b, l⟩; · simp at hl)
  rcases l with _ | ⟨b, l⟩
  · kernel_rfl
  · simp at hl
set_option maxRecDepth 20000 in
set_option maxHeartbeats 4000000 in
theorem rUndo_r (a : TxA) (id : K32) (A As : Option Addr) (c cs : Nat) (l sp : List CoinV) (w : World) (hl : RowIn encC 68 w w.heap.size A c l) (hs : RowIn encC 68 w w.heap.size As cs sp)
    (hn : l.length ≤ 1000) (hsn : sp.length ≤ 1000) (ho : a.T.outs.length ≤ 1000) :
    Calls Try.prog 15 #[.slice A l.length c, .agg a.cells.toArray, .agg (encK id).toArray, .slice As sp.length cs] w (EndU w (undoF l id a.T.outs.length sp)) := by
  have B0 := Lib.hid (show Below w.heap.size w ((w.alloc (.cells a.cells.toArray 30)).alloc (.cells (encK id).toArray 27)) from ((Below.refl w.heap.size w).alloc (Nat.le_refl _) _).alloc (by simp) _)
  have K0 := Lib.hid (show Blk ((w.alloc (.cells a.cells.toArray 30)).alloc (.cells (encK id).toArray 27)) (w.heap.size + 1) 27 (encK id).toArray from blk_new (g := w.heap.size + 1) 27 _ (by simp))
  have c2 := TxA.c2 (RowC.of_blk ((Blk.new w 30 a.cells.toArray).alloc (.cells (encK id).toArray 27)))
  have L0 := Lib.hid ((hl.below B0.out).more B0.out.size)
  have HS := Lib.hid hs
  have HN := Lib.hid (And.intro hn hsn)
  obtain ⟨R, hR⟩ : ∃ R, remC CoinV.at_ l (ptsR id a.T.outs.length) = R := ⟨_, rfl⟩
  obtain ⟨F, hF⟩ : ∃ F, undoF l id a.T.outs.length sp = F := ⟨_, rfl⟩
  rw [hF]
  unfold undoF at hF
  rw [hR] at hF
  have HR := Lib.hid hR
  have HF := Lib.hid hF
  clear hl hs hn hR hF
  go_enter Try.func15, Try.ntmps15
  go_wp2_with fail
  go_loopw [0, 10] (fun s0 si wr => ∃ (A' : Option Addr) (c' : Nat) (m : List CoinV) (k : Nat), s0 = .slice A' m.length c' ∧ si = .int .i64 ((k : Int) - 1) ∧ k ≤ a.T.outs.length ∧ Hid (m.length ≤ 1000) ∧ Hid (RowIn encC 68 wr wr.heap.size A' c' m) ∧ Hid (remC CoinV.at_ m (ptsR id k) = R) ∧ Hid (Below w.heap.size w wr ∧ Blk wr (w.heap.size + 1) 27 (encK id).toArray)) (fun _ si _ => (intOf si + 1).toNat)
  case atStart => exact ⟨A, c, l, a.T.outs.length, rfl, by go_num, by omega, Lib.hid HN.out.1, L0, HR, Lib.hid ⟨B0.out, K0.out⟩⟩
  case round =>
    clear B0 K0 c2 L0 HR
    obtain ⟨A1, c1, m, k, rfl, rfl, hk, HM, HL, HR, HB⟩ := hrel
    cases k with
    | zero =>
      have HF2 := Lib.hid (show backU sp (some m) = F by rw [← HF.out, ← HR.out]; rfl)
      have HB2 := Lib.hid HB.out.1
      clear HF HR HB
      rw [show ((0 : Nat) : Int) - 1 = -1 from rfl]
      obtain ⟨R2, hR2⟩ : ∃ R2, addC CoinV.at_ ltP m sp.reverse = R2 := ⟨_, rfl⟩
      have HA := Lib.hid (show addC CoinV.at_ ltP m (sp.take sp.length).reverse = R2 by rw [List.take_length]; exact hR2)
      have HG := Lib.hid (show F = endA R2 by rw [← HF2.out, ← hR2]; rfl)
      have HM2 := Lib.hid (show m.length + sp.length ≤ 2000 by have := HM.out; have := HN.out; omega)
      have hsl := HN.out.2
      clear hR2 HF2 HM
      go_wp2_with fail
      go_loopw [0, 12] (fun s0 si wr => ∃ (A' : Option Addr) (c' : Nat) (m : List CoinV) (k : Nat), s0 = .slice A' m.length c' ∧ si = .int .i64 ((k : Int) - 1) ∧ k ≤ sp.length ∧ Hid (m.length + k ≤ 2000) ∧ Hid (RowIn encC 68 wr wr.heap.size A' c' m) ∧ Hid (addC CoinV.at_ ltP m (sp.take k).reverse = R2) ∧ Hid (Below w.heap.size w wr)) (fun _ si _ => (intOf si + 1).toNat)
      case atStart => exact ⟨A1, c1, m, sp.length, rfl, by go_num, by omega, HM2, HL, HA, HB2⟩
      case round =>
        clear HB2 HL HA HM2
        obtain ⟨A1, c1, m, k, rfl, rfl, hk, HM, HL, HA, HB⟩ := hrel
        cases k with
        | zero =>
          rw [show ((0 : Nat) : Int) - 1 = -1 from rfl]
          have HF3 := Lib.hid (show F = .ok m by rw [HG.out, ← HA.out]; rfl)
          clear HG HA
          go_wp2_with fail
          go_ret2
          rw [HF3.out]
          exact ⟨HB.out, A1, c1, rfl, HL.out⟩
        | succ k =>
          rw [show ((k + 1 : Nat) : Int) - 1 = (k : Int) by omega]
          have hd : decide ((k : Int) ≥ 0) = true := by simp
          have hd2 : decide ((0 : Int) ≤ (k : Int)) = true := by simp
          have hlt : k < sp.length := by omega
          obtain ⟨g, o, hA, hg, hc⟩ := HS.out.at encC_len hlt
          obtain ⟨x, hx⟩ : ∃ x, sp[k]'hlt = x := ⟨_, rfl⟩
          rw [hx] at hc
          subst hA
          have XA := Lib.hid (show ∀ W, Below w.heap.size w W → RowC W g (o + k * 68) (encC x) from fun W hb => hc.below hb hg)
          have HP := Lib.hid (placeF_of m x.at_)
          have HT := Lib.hid (take_rev hlt hx)
          have hi0 : (0 : Int) ≤ (k : Int) := by omega
          have hi1 : (k : Int) < (sp.length : Int) := by omega
          have hkb : k < 1000 := by omega
          clear hx hc hg
          go_wp2_with (first
            | ((with_reducible refine at_load 43 ?_); refine tyPt.wpList_load rfl (.tmp 43) rfl g (o + k * 68) rfl x.at_ (RowC.co_at (XA.out _ HB.out)) ?_))
          refine (rPlace_r A1 c1 m x.at_ _ HL.out (by have := HM.out; omega)).mono ?_
          rintro e w1 ⟨rfl, b1⟩
          have HB1 := Lib.hid (show Below w.heap.size w w1 from HB.out.trans (b1.mono HB.out.size))
          have L1 := Lib.hid ((HL.out.below b1).more b1.size)
          clear b1 HB HL
          rcases HP.out with ⟨h1, h2⟩ | ⟨j, hj, h1, h2, h3⟩
          · have HA2 := Lib.hid (show addC CoinV.at_ ltP (putP x m) (sp.take k).reverse = R2 by rw [← HA.out, HT.out, add_yes h2])
            rw [h1]
            clear h1 h2
            go_wp2_with (first
              | ((with_reducible refine at_load 50 ?_); refine tyCr.wpList_load rfl (.tmp 50) rfl g (o + k * 68) rfl x (XA.out _ HB1.out) ?_))
            refine (rPutC_r A1 c1 m x _ L1.out (by have := HM.out; omega)).mono ?_
            rintro e w2 ⟨A2, c2, rfl, r2, b2⟩
            have HB2 := Lib.hid (show Below w.heap.size w w2 from HB1.out.trans (b2.mono HB1.out.size))
            have L2 := Lib.hid r2
            have HM2 := Lib.hid (show (putP x m).length + k ≤ 2000 by rw [putC_len]; have := HM.out; omega)
            clear r2 b2
            go_wp2_with fail
            go_roundw
            case rel => exact ⟨A2, c2, putP x m, k, rfl, by go_num, by omega, HM2, L2, HA2, HB2⟩
            case measure => simp [intOf] <;> omega
          · have HF3 := Lib.hid (show F = .error 4 by rw [HG.out, ← HA.out, HT.out, add_no h2]; rfl)
            rw [h1]
            have hng : decide ((j : Int) ≥ 0) = true := by simp
            have hng2 : decide ((0 : Int) ≤ (j : Int)) = true := by simp
            clear h1 h2 h3
            go_wp2_with fail
            go_ret2
            rw [HF3.out]
            exact ⟨HB1.out, rfl⟩
    | succ k =>
      rw [show ((k + 1 : Nat) : Int) - 1 = (k : Int) by omega]
      have hd : decide ((k : Int) ≥ 0) = true := by simp
      have hd2 : decide ((0 : Int) ≤ (k : Int)) = true := by simp
      have HP := Lib.hid (placeF_of m (id, toU32 k))
      have hkb : k < 1000 := by omega
      have HV := Lib.hid (show (k : Int) = (toU32 k).1 by show (k : Int) = ((k % 4294967296 : Nat) : Int); omega)
      go_wp2_with (first
        | ((with_reducible refine at_load 6 ?_); refine tyKc.wpList_load rfl (.tmp 6) rfl (w.heap.size + 1) 0 rfl id (RowC.of_blk HB.out.2) ?_)
        | ((with_reducible refine at_build 25 ?_); refine wpList_built rfl 32 #[(0, .tmp 22), (1, .tmp 24)] rfl (encKI .u32 (id, toU32 k)).toArray ((congrArg (Try.prog.built 32) ((show _ = [(0, Value.agg (encK id).toArray), (1, Value.int .u32 (k : Int))] by kernel_rfl).trans (congrArg (fun z => [(0, Value.agg (encK id).toArray), (1, Value.int .u32 z)]) HV.out))).trans (cbuilt_KI _ rfl id (toU32 k))) ?_))
      refine (rPlace_r A1 c1 m (id, toU32 k) _ HL.out (by have := HM.out; omega)).mono ?_
      rintro e w1 ⟨rfl, b1⟩
      have HB1 := Lib.hid (show Below w.heap.size w w1 ∧ Blk w1 (w.heap.size + 1) 27 (encK id).toArray from ⟨HB.out.1.trans (b1.mono HB.out.1.size), below_blk b1 HB.out.2 HB.out.2.lt⟩)
      have L1 := Lib.hid ((HL.out.below b1).more b1.size)
      clear b1 HB HL
      rcases HP.out with ⟨h1, h2⟩ | ⟨j, hj, h1, h2, h3⟩
      · have HF2 := Lib.hid (show F = .error 3 by rw [← HF.out, ← HR.out, show ptsR id (k + 1) = (id, toU32 k) :: ptsR id k from rfl, rem_no h2]; rfl)
        rw [h1]
        clear h1 h2
        go_wp2_with fail
        go_ret2
        rw [HF2.out]
        exact ⟨HB1.out.1, rfl⟩
      · have HR2 := Lib.hid (show remC CoinV.at_ (m.eraseIdx j) (ptsR id k) = R by rw [← HR.out, show ptsR id (k + 1) = (id, toU32 k) :: ptsR id k from rfl, rem_yes h2 h3])
        rw [h1]
        have hng : decide ((j : Int) < 0) = false := by simp
        clear h1 h2 h3
        go_wp2_with fail
        refine (rWithout_r A1 c1 m j _ L1.out (by have := HM.out; omega)).mono ?_
        rintro e w2 ⟨A2, c2, rfl, r2, b2, _⟩
        have HB2 := Lib.hid (show Below w.heap.size w w2 ∧ Blk w2 (w.heap.size + 1) 27 (encK id).toArray from ⟨HB1.out.1.trans (b2.mono HB1.out.1.size), below_blk b2 HB1.out.2 HB1.out.2.lt⟩)
        have L2 := Lib.hid r2
        have HM2 := Lib.hid (show (m.eraseIdx j).length ≤ 1000 from Nat.le_trans (List.length_eraseIdx_le _ _) HM.out)
        clear r2 b2
        go_wp2_with fail
        go_roundw
        case rel => exact ⟨A2, c2, m.eraseIdx j, k, rfl, by go_num, by omega, HM2, L2, HR2, HB2⟩
        case measure => simp [intOf] <;> omega
end Go.Proofs.Ytkjgmhamglhggaa
