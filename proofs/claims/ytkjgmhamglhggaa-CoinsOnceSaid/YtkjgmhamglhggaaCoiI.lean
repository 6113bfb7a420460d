/- The document's Apply of coins. Written by genCoA.py. -/
import Derived.Test.YtkjgmhamglhggaaCoiH
namespace Go.Proofs.Ytkjgmhamglhggaa
open Go.RowKit
def EndP (w : World) (x : Except Int (List CoinV × List CoinV)) (e : Ending) (w' : World) : Prop :=
  Below w.heap.size w w' ∧ match x with
    | .error z => e = .returned (.tuple #[.slice none 0 0, .slice none 0 0, .int .i64 z])
    | .ok y => ∃ A1 c1 A2 c2, e = .returned (.tuple #[.slice A1 y.1.length c1, .slice A2 y.2.length c2, .int .i64 0]) ∧ RowIn encC 68 w' w'.heap.size A1 c1 y.1 ∧ RowIn encC 68 w' w'.heap.size A2 c2 y.2
def endQ (q : List CoinV) (r : Option (List CoinV)) : Except Int (List CoinV × List CoinV) := match r with
  | none => .error 4
  | some r => .ok (r, q)
theorem cbuilt_C (t : TypeId) (ht : t = 52) (p : PtV) (o : IntV .i64 × K32) (h : IntV .u32) (b : Bool) : Try.prog.built t [(0, .agg (encKI .u32 p).toArray), (1, .agg (encIK .i64 o).toArray), (2, .int .u32 h.1), (3, .bool b)] = some (encC ⟨p, o, h, b⟩).toArray := by
  subst ht
  obtain ⟨⟨l, hl⟩, z⟩ := p
  obtain ⟨y, ⟨k, hk⟩⟩ := o
  iterate 32 (rcases l with _ | ⟨b, l⟩; · simp at hl)
  rcases l with _ | ⟨b, l⟩
  · iterate 32 (rcases k with _ | ⟨b, k⟩; · simp at hk)
    rcases k with _ | ⟨b, k⟩
    · kernel_rfl
    · simp at hk
  · simp at hl
set_option maxRecDepth 20000 in
set_option maxHeartbeats 8000000 in
theorem rApply_r (a : TxA) (id : K32) (h : IntV .u32) (A : Option Addr) (c : Nat) (l : List CoinV) (w : World) (ha : a.In w w.heap.size) (hl : RowIn encC 68 w w.heap.size A c l)
    (hn : l.length ≤ 1000) (hi : a.T.ins.length ≤ 1000) (ho : a.T.outs.length ≤ 1000) :
    Calls Try.prog 12 #[.slice A l.length c, .agg a.cells.toArray, .agg (encK id).toArray, .int .u32 h.1] w (EndP w (applyF l a.T id h)) := by
  obtain ⟨bb, hbb, hbl⟩ := czbR
  have HBB := Lib.hid hbb
  have HBL := Lib.hid hbl
  have B0 := Lib.hid (show Below w.heap.size w (((w.alloc (.cells a.cells.toArray 30)).alloc (.cells (encK id).toArray 27)).alloc (.cells #[] 52)) ∧ Blk (((w.alloc (.cells a.cells.toArray 30)).alloc (.cells (encK id).toArray 27)).alloc (.cells #[] 52)) w.heap.size 30 a.cells.toArray ∧ Blk (((w.alloc (.cells a.cells.toArray 30)).alloc (.cells (encK id).toArray 27)).alloc (.cells #[] 52)) (w.heap.size + 1) 27 (encK id).toArray from
    ⟨(((Below.refl w.heap.size w).alloc (Nat.le_refl _) _).alloc (by simp) _).alloc (by simp; omega) _, ((Blk.new w 30 a.cells.toArray).alloc _).alloc _, (blk_new (g := w.heap.size + 1) 27 _ (by simp)).alloc _⟩)
  have O0 := Lib.hid (show World.ownsRow (((w.alloc (.cells a.cells.toArray 30)).alloc (.cells (encK id).toArray 27)).alloc (.cells #[] 52)) (w.heap.size + 2) 52 68 (.slice (some ⟨w.heap.size + 2, 0, none⟩) 0 0) ([] : List CoinV).length (cellsOf encC []) from cown_nil (blk_new (g := w.heap.size + 2) 52 #[] (by simp)) (Nat.le_refl _))
  have L0 := Lib.hid ((hl.below B0.out.1).more B0.out.1.size)
  have HS := Lib.hid (show ∀ b, A = some b → l ≠ [] → b.block < w.heap.size from fun b hb hne => by
    obtain ⟨g, o, e, hlt, _⟩ := hl.cells hne
    rw [hb] at e
    cases e
    exact hlt)
  have HI := Lib.hid ha
  have HN := Lib.hid hn
  obtain ⟨R, hR⟩ : ∃ R, takeF l a.T h = R := ⟨_, rfl⟩
  obtain ⟨b, hb⟩ : ∃ b, coinF a.T = b := ⟨_, rfl⟩
  have HC := Lib.hid (show ∀ W, a.In W W.heap.size → Calls Try.prog 32 #[.agg a.cells.toArray] W fun e w' => e = .returned (.bool b) ∧ Below W.heap.size W w' from fun W hW => by
    have := refCoin_any a W hW
    rwa [hb] at this)
  have HR := Lib.hid (show (if b = true then some (l, ([] : List CoinV)) else withC [] (takeC CoinV.at_ (fun c => ripeF c h) l (a.T.ins.drop 0))) = R by
    rw [← hR, ← hb]
    unfold takeF
    cases coinF a.T with
    | true => rfl
    | false =>
      show Option.map (fun y => y) _ = _
      rw [Option.map_id']
      rfl)
  obtain ⟨F, hF⟩ : ∃ F, applyF l a.T id h = F := ⟨_, rfl⟩
  rw [hF]
  unfold applyF at hF
  rw [hR, hb] at hF
  have HF := Lib.hid hF
  have H0 := Lib.hid (show ∀ b, A = some b → some b.block ≠ Value.ownBlock (.slice (some ⟨w.heap.size + 2, 0, none⟩) 0 0) ∨ l = [] from fun b hb => by
    by_cases hne : l = []
    · exact .inr hne
    · left
      intro e
      have := HS.out b hb hne
      have e2 : b.block = w.heap.size + 2 := Option.some.inj e
      omega)
  clear hl ha hn hR hb hF hbb hbl
  go_enter Try.func12, Try.ntmps12
  go_wp2_with ((with_reducible refine at_load 5 ?_); refine tyTx.wpList_load rfl (.tmp 5) rfl w.heap.size 0 rfl a (RowC.of_blk B0.out.2.1) ?_)
  refine (HC.out _ (HI.out.on B0.out.1 (Nat.le_refl _))).mono ?_
  rintro e w1 ⟨rfl, b1⟩
  have B1 := Lib.hid (show Below w.heap.size w w1 ∧ Blk w1 w.heap.size 30 a.cells.toArray ∧ Blk w1 (w.heap.size + 1) 27 (encK id).toArray from ⟨B0.out.1.trans (b1.mono B0.out.1.size), below_blk b1 B0.out.2.1 B0.out.2.1.lt, below_blk b1 B0.out.2.2 B0.out.2.2.lt⟩)
  have O1 := Lib.hid (cown_below O0.out b1)
  have L1 := Lib.hid ((L0.out.below b1).more b1.size)
  clear b1 B0 O0 L0 HC
  go_wp2_with fail
  go_loopw [0, 11, 13] (fun s0 so si wr => ∃ (A' : Option Addr) (c' : Nat) (m q : List CoinV) (j : Nat), s0 = .slice A' m.length c' ∧ si = .int .i64 j ∧ j ≤ a.T.ins.length ∧ Hid (m.length ≤ 1000 ∧ q.length ≤ j) ∧ Hid (RowIn encC 68 wr wr.heap.size A' c' m) ∧ Hid (wr.ownsRow (w.heap.size + 2) 52 68 so q.length (cellsOf encC q)) ∧ Hid (∀ b, A' = some b → some b.block ≠ so.ownBlock ∨ m = []) ∧ Hid ((if b = true then some (m, q) else withC q (takeC CoinV.at_ (fun c => ripeF c h) m (a.T.ins.drop j))) = R) ∧ Hid (Below w.heap.size w wr ∧ Blk wr w.heap.size 30 a.cells.toArray ∧ Blk wr (w.heap.size + 1) 27 (encK id).toArray)) (fun _ _ si _ => a.T.ins.length - (intOf si).toNat)
  case atStart => exact ⟨A, c, l, [], 0, rfl, rfl, by omega, Lib.hid ⟨HN.out, Nat.le_refl _⟩, L1, O1, H0, HR, B1⟩
  case round =>
    clear B1 O1 L1 H0 HR
    obtain ⟨A1, c1, m, q, j, rfl, rfl, hj, HM, HL, OW, HX, HR, HB⟩ := hrel
    have k1 := TxA.c1 (RowC.of_blk HB.out.2.1)
    cases b with
    | true =>
      have HR2 := Lib.hid (show some (m, q) = R from HR.out)
      by_cases hlt0 : j < a.T.ins.length
      · have hd0 : decide ((j : Int) < (a.T.ins.length : Int)) = true := by simp; omega
        obtain ⟨A2, c2, hv, r2⟩ := RowIn.of_own encC_len OW.out
        subst hv
        have QL := Lib.hid r2
        obtain ⟨R3, hR3⟩ : ∃ R3, addC CoinV.at_ ltP m (madeC id h true 0 a.T.outs) = R3 := ⟨_, rfl⟩
        have HG := Lib.hid (show F = endQ q R3 by rw [← HF.out, ← HR2.out, ← hR3]; rfl)
        have HA := Lib.hid (show addC CoinV.at_ ltP m (madeC id h true 0 (a.T.outs.drop 0)) = R3 from hR3)
        have HM2 := Lib.hid (show m.length ≤ 1000 + 0 from HM.out.1)
        clear r2 hR3 HR HR2 OW HX HM HF
        go_wp2_with fail
        clear k1
        go_loopw [0, 15] (fun s0 si wr => ∃ (A' : Option Addr) (c' : Nat) (m : List CoinV) (j : Nat), s0 = .slice A' m.length c' ∧ si = .int .i64 j ∧ j ≤ a.T.outs.length ∧ Hid (m.length ≤ 1000 + j) ∧ Hid (RowIn encC 68 wr wr.heap.size A' c' m) ∧ Hid (addC CoinV.at_ ltP m (madeC id h true j (a.T.outs.drop j)) = R3) ∧ Hid (Below w.heap.size w wr ∧ Blk wr w.heap.size 30 a.cells.toArray ∧ Blk wr (w.heap.size + 1) 27 (encK id).toArray) ∧ Hid (RowIn encC 68 wr wr.heap.size A2 c2 q)) (fun _ si _ => a.T.outs.length - (intOf si).toNat)
        case atStart => exact ⟨A1, c1, m, 0, rfl, rfl, by omega, HM2, HL, HA, HB, QL⟩
        case round =>
          clear HL HA HB QL HM2
          obtain ⟨A1, c1, m, j, rfl, rfl, hj, HM, HL, HA, HB, QL⟩ := hrel
          have k2 := TxA.c2 (RowC.of_blk HB.out.2.1)
          by_cases hlt : j < a.T.outs.length
          · have hd : decide ((j : Int) < (a.T.outs.length : Int)) = true := by simp; omega
            obtain ⟨g0, o0, hA, hg0, hc0⟩ := HI.out.outs.at (encIK_len _) hlt
            rw [hA] at k2
            obtain ⟨oo, hp⟩ : ∃ oo, a.T.outs[j]'hlt = oo := ⟨_, rfl⟩
            rw [hp] at hc0
            have XW := Lib.hid (show ∀ W, Below w.heap.size w W → RowC W g0 (o0 + j * 33) (encIK .i64 oo) from fun W hb => hc0.below hb hg0)
            have HDR := Lib.hid (show a.T.outs.drop j = oo :: a.T.outs.drop (j + 1) by rw [List.drop_eq_getElem_cons hlt, hp])
            have HP := Lib.hid (placeF_of m (id, toU32 j))
            have HJ := Lib.hid (show j + 1 ≤ a.T.outs.length by omega)
            have HV := Lib.hid (show (j : Int) = (toU32 j).1 by show (j : Int) = ((j % 4294967296 : Nat) : Int); omega)
            have HJ2 := Lib.hid (show j < 1000 by omega)
            have hi0 : (0 : Int) ≤ (j : Int) := by omega
            have hi1 : (j : Int) < (a.T.outs.length : Int) := by omega
            have hj3 : j < 1000 := by omega
            have HOA := Lib.hid hA
            clear hA hc0 hp hg0
            go_wp2_with (first
              | ((with_reducible refine at_load 6 ?_); refine tyKc.wpList_load rfl (.tmp 6) rfl (w.heap.size + 1) 0 rfl id (RowC.of_blk HB.out.2.2) ?_)
              | ((with_reducible refine at_build 69 ?_); refine wpList_built rfl 32 #[(0, .tmp 66), (1, .tmp 68)] rfl (encKI .u32 (id, toU32 j)).toArray ((congrArg (Try.prog.built 32) ((show _ = [(0, Value.agg (encK id).toArray), (1, Value.int .u32 (j : Int))] by kernel_rfl).trans (congrArg (fun z => [(0, Value.agg (encK id).toArray), (1, Value.int .u32 z)]) HV.out))).trans (cbuilt_KI _ rfl id (toU32 j))) ?_)
              | ((with_reducible refine at_store 16 69 ?_); refine tyPc.wpList_store rfl (.tmp 16) (.tmp 69) rfl rfl wr.heap.size (id, toU32 j) rfl rfl 32 _ (Blk.new wr _ _) rfl ?_; intro w7 o7 b7
                 have BB := Lib.hid (((Below.refl wr.heap.size wr).alloc (Nat.le_refl _) _).trans (o7.below (by simp)))
                 have HB7 := Lib.hid (show Below w.heap.size w w7 ∧ Blk w7 w.heap.size 30 a.cells.toArray ∧ Blk w7 (w.heap.size + 1) 27 (encK id).toArray from ⟨HB.out.1.trans (BB.out.mono HB.out.1.size), below_blk BB.out HB.out.2.1 HB.out.2.1.lt, below_blk BB.out HB.out.2.2 HB.out.2.2.lt⟩)
                 have L7 := Lib.hid ((HL.out.below BB.out).more BB.out.size)
                 have Q7 := Lib.hid ((QL.out.below BB.out).more BB.out.size)
                 have K7 := Lib.hid b7
                 clear b7 o7 BB)
              | ((with_reducible refine at_load 16 ?_); refine tyPc.wpList_load rfl (.tmp 16) rfl wr.heap.size 0 rfl (id, toU32 j) (RowC.of_blk K7.out) ?_))
            refine (rPlace_r A1 c1 m (id, toU32 j) _ L7.out (by have := HM.out; omega)).mono ?_
            rintro e w8 ⟨rfl, b8⟩
            have HB8 := Lib.hid (show Below w.heap.size w w8 ∧ Blk w8 w.heap.size 30 a.cells.toArray ∧ Blk w8 (w.heap.size + 1) 27 (encK id).toArray from ⟨HB7.out.1.trans (b8.mono HB7.out.1.size), below_blk b8 HB7.out.2.1 HB7.out.2.1.lt, below_blk b8 HB7.out.2.2 HB7.out.2.2.lt⟩)
            have L8 := Lib.hid ((L7.out.below b8).more b8.size)
            have Q8 := Lib.hid ((Q7.out.below b8).more b8.size)
            have K8 := Lib.hid (below_blk b8 K7.out K7.out.lt)
            clear b8 HB7 L7 Q7 K7 k2 HB HL QL
            rcases HP.out with ⟨h1, h2⟩ | ⟨k, hk, h1, h2, h3⟩
            · have HA2 := Lib.hid (show addC CoinV.at_ ltP (putP (⟨(id, toU32 j), oo, h, true⟩ : CoinV) m) (madeC id h true (j + 1) (a.T.outs.drop (j + 1))) = R3 by
                rw [← HA.out, HDR.out]
                exact (add_yes (c := (⟨(id, toU32 j), oo, h, true⟩ : CoinV)) h2).symm)
              rw [h1]
              clear h1 h2
              have K2 := Lib.hid (show ∀ W, Below w8.heap.size w8 W → W.cell? ⟨w.heap.size, 2, none⟩ = some (.slice (some ⟨g0, o0, none⟩) a.T.outs.length a.co) from fun W hb => by
                rw [← HOA.out]
                exact TxA.c2 (RowC.of_blk (below_blk hb HB8.out.2.1 HB8.out.2.1.lt)))
              have XO := Lib.hid (show ∀ W, Below w8.heap.size w8 W → RowC W g0 (o0 + j * 33) (encIK .i64 oo) from fun W hb => XW.out W (HB8.out.1.trans (hb.mono HB8.out.1.size)))
              have KP := Lib.hid (show ∀ W, Below w8.heap.size w8 W → RowC W wr.heap.size 0 (encKI .u32 (id, toU32 j)) from fun W hb => RowC.of_blk (below_blk hb K8.out K8.out.lt))
              go_wp2_with fail
              refine wp_region_held_drew (S := fun W => Below w8.heap.size w8 W) (by kernel_rfl) ((Below.refl w8.heap.size w8).drew) ?_
              intro hS
              refine wpAnyH_take (i := 0) (v := .slice A1 m.length c1) rfl (by kernel_rfl) (by kernel_rfl) (by kernel_rfl) (fun _ _ _ h => h) (Or.inl ⟨by rfl, fun W _ => by go_simp; try with_reducible rfl⟩) hS ?_
              simp only [Act.put, List.getElem_toArray, List.getElem_cons_zero, List.setIfInBounds_toArray, List.set_cons_succ, List.set_cons_zero]
              refine wpAnyH_take (i := 1) (v := .agg (encKI .u32 (id, toU32 j)).toArray) rfl (by kernel_rfl) (by kernel_rfl) (by kernel_rfl) (fun _ _ _ h => h) (tyPt.yieldsIf_load (by rfl) (.tmp 16) rfl wr.heap.size 0 rfl (id, toU32 j) (fun W h => KP.out W h)) hS ?_
              simp only [Act.put, List.getElem_toArray, List.getElem_cons_zero, List.getElem_cons_succ, List.setIfInBounds_toArray, List.set_cons_succ, List.set_cons_zero]
              refine wpAnyH_take (i := 2) (v := .pointer (some ⟨w.heap.size, 2, none⟩)) rfl (by kernel_rfl) (by kernel_rfl) (by kernel_rfl) (fun _ _ _ h => h) (Or.inl ⟨by rfl, fun W _ => by go_simp; try with_reducible rfl⟩) hS ?_
              simp only [Act.put, List.getElem_toArray, List.getElem_cons_zero, List.getElem_cons_succ, List.setIfInBounds_toArray, List.set_cons_succ, List.set_cons_zero]
              refine wpAnyH_take (i := 3) (v := .slice (some ⟨g0, o0, none⟩) a.T.outs.length a.co) rfl (by kernel_rfl) (by kernel_rfl) (by kernel_rfl) (fun _ _ _ h => h) (Or.inl ⟨by rfl, fun W hW => by have k2 := K2.out W hW; go_simp; try with_reducible rfl⟩) hS ?_
              simp only [Act.put, List.getElem_toArray, List.getElem_cons_zero, List.getElem_cons_succ, List.setIfInBounds_toArray, List.set_cons_succ, List.set_cons_zero]
              refine wpAnyH_take (i := 4) (v := .int .i64 j) rfl (by kernel_rfl) (by kernel_rfl) (by kernel_rfl) (fun _ _ _ h => h) (Or.inl ⟨by rfl, fun W _ => by go_simp; try with_reducible rfl⟩) hS ?_
              simp only [Act.put, List.getElem_toArray, List.getElem_cons_zero, List.getElem_cons_succ, List.setIfInBounds_toArray, List.set_cons_succ, List.set_cons_zero]
              refine wpAnyH_take (i := 5) (v := .pointer (some ⟨g0, o0 + j * 33, none⟩)) rfl (by kernel_rfl) (by kernel_rfl) (by kernel_rfl) (fun _ _ _ h => h) (Or.inl ⟨by rfl, fun W _ => by go_simp; try with_reducible rfl⟩) hS ?_
              simp only [Act.put, List.getElem_toArray, List.getElem_cons_zero, List.getElem_cons_succ, List.setIfInBounds_toArray, List.set_cons_succ, List.set_cons_zero]
              refine wpAnyH_take (i := 6) (v := .agg (encIK .i64 oo).toArray) rfl (by kernel_rfl) (by kernel_rfl) (by kernel_rfl) (fun _ _ _ h => h) (tyOut.yieldsIf_load (by rfl) (.tmp 79) rfl g0 (o0 + j * 33) rfl oo (fun W h => XO.out W h)) hS ?_
              simp only [Act.put, List.getElem_toArray, List.getElem_cons_zero, List.getElem_cons_succ, List.setIfInBounds_toArray, List.set_cons_succ, List.set_cons_zero]
              refine wpAnyH_take (i := 7) (v := .int .u32 h.1) rfl (by kernel_rfl) (by kernel_rfl) (by kernel_rfl) (fun _ _ _ h => h) (Or.inl ⟨by rfl, fun W _ => by go_simp; try with_reducible rfl⟩) hS ?_
              simp only [Act.put, List.getElem_toArray, List.getElem_cons_zero, List.getElem_cons_succ, List.setIfInBounds_toArray, List.set_cons_succ, List.set_cons_zero]
              refine wpAnyH_take (i := 8) (v := .bool true) rfl (by kernel_rfl) (by kernel_rfl) (by kernel_rfl) (fun _ _ _ h => h) (Or.inl ⟨by rfl, fun W _ => by go_simp; try with_reducible rfl⟩) hS ?_
              simp only [Act.put, List.getElem_toArray, List.getElem_cons_zero, List.getElem_cons_succ, List.setIfInBounds_toArray, List.set_cons_succ, List.set_cons_zero]
              refine wpAnyH_take (i := 9) (v := .agg (encC (⟨(id, toU32 j), oo, h, true⟩ : CoinV)).toArray) rfl (by kernel_rfl) (by kernel_rfl) (by kernel_rfl) (fun _ _ _ h => h) (yieldsIf_build (by rfl) 52 #[(0, .tmp 75), (1, .tmp 80), (2, .tmp 81), (3, .tmp 82)] rfl (encC (⟨(id, toU32 j), oo, h, true⟩ : CoinV)).toArray ((congrArg (Try.prog.built 52) (show _ = [(0, Value.agg (encKI .u32 (id, toU32 j)).toArray), (1, Value.agg (encIK .i64 oo).toArray), (2, Value.int .u32 h.1), (3, Value.bool true)] by kernel_rfl)).trans (cbuilt_C _ rfl (id, toU32 j) oo h true))) hS ?_
              simp only [Act.put, List.getElem_toArray, List.getElem_cons_zero, List.getElem_cons_succ, List.setIfInBounds_toArray, List.set_cons_succ, List.set_cons_zero]
              refine wpAnyH_ready (rs := [10]) (by kernel_rfl) (by simp) ?_
              refine AllReadyH.cons rfl (fun Kq hK => ?_) AllReadyH.nil
              go_simp
              refine (rPutC_r A1 c1 m (⟨(id, toU32 j), oo, h, true⟩ : CoinV) _ ((L8.out.below hS).more hS.size) (by have := HM.out; omega)).mono ?_
              rintro e y1 ⟨A9, c9, rfl, r9, b9⟩
              have R9 := Lib.hid r9
              refine hK.out _ _ (hS.trans (b9.mono hS.size)) (fun hS => ?_)
              clear hK Kq b9 r9
              refine wpAnyH_take (i := 11) (v := .slice A9 (putP (⟨(id, toU32 j), oo, h, true⟩ : CoinV) m).length c9) rfl (by kernel_rfl) (by kernel_rfl) (by kernel_rfl) (fun _ _ _ h => h) (Or.inl ⟨by rfl, fun W _ => by go_simp; try with_reducible rfl⟩) hS ?_
              simp only [Act.put, List.getElem_toArray, List.getElem_cons_zero, List.getElem_cons_succ, List.setIfInBounds_toArray, List.set_cons_zero]
              refine wpAnyH_done (by kernel_rfl) ?_ _
              have HB9 := Lib.hid (show Below w.heap.size w y1 ∧ Blk y1 w.heap.size 30 a.cells.toArray ∧ Blk y1 (w.heap.size + 1) 27 (encK id).toArray from ⟨HB8.out.1.trans (hS.mono HB8.out.1.size), below_blk hS HB8.out.2.1 HB8.out.2.1.lt, below_blk hS HB8.out.2.2 HB8.out.2.2.lt⟩)
              have Q9 := Lib.hid ((Q8.out.below hS).more hS.size)
              have HM9 := Lib.hid (show (putP (⟨(id, toU32 j), oo, h, true⟩ : CoinV) m).length ≤ 1000 + (j + 1) by rw [putC_len]; have := HM.out; omega)
              clear hS HB8 Q8 L8
              go_wp2_with fail
              go_roundw
              case rel => exact ⟨A9, c9, putP (⟨(id, toU32 j), oo, h, true⟩ : CoinV) m, j + 1, rfl, by go_num, HJ.out, HM9, R9, HA2, HB9, Q9⟩
              case measure => simp [intOf]; omega
            · have HG2 := Lib.hid (show F = .error 4 by
                rw [HG.out, ← HA.out, HDR.out]
                exact congrArg (endQ q) (add_no (c := (⟨(id, toU32 j), oo, h, true⟩ : CoinV)) h2))
              rw [h1]
              have hng : decide ((k : Int) ≥ 0) = true := by simp
              have hng2 : decide ((0 : Int) ≤ (k : Int)) = true := by simp
              clear h1 h2 h3
              go_wp2_with fail
              go_ret3
              rw [HG2.out]
              exact ⟨HB8.out.1, rfl⟩
          · have hd : decide ((j : Int) < (a.T.outs.length : Int)) = false := by simp; omega
            have HG2 := Lib.hid (show F = .ok (m, q) by rw [HG.out, ← HA.out, List.drop_of_length_le (by omega)]; rfl)
            go_wp2_with fail
            go_ret3
            rw [HG2.out]
            exact ⟨HB.out.1, A1, c1, A2, c2, rfl, HL.out, QL.out⟩
      · have hd0 : decide ((j : Int) < (a.T.ins.length : Int)) = false := by simp; omega
        obtain ⟨A2, c2, hv, r2⟩ := RowIn.of_own encC_len OW.out
        subst hv
        have QL := Lib.hid r2
        obtain ⟨R3, hR3⟩ : ∃ R3, addC CoinV.at_ ltP m (madeC id h true 0 a.T.outs) = R3 := ⟨_, rfl⟩
        have HG := Lib.hid (show F = endQ q R3 by rw [← HF.out, ← HR2.out, ← hR3]; rfl)
        have HA := Lib.hid (show addC CoinV.at_ ltP m (madeC id h true 0 (a.T.outs.drop 0)) = R3 from hR3)
        have HM2 := Lib.hid (show m.length ≤ 1000 + 0 from HM.out.1)
        clear r2 hR3 HR HR2 OW HX HM HF
        go_wp2_with fail
        clear k1
        go_loopw [0, 15] (fun s0 si wr => ∃ (A' : Option Addr) (c' : Nat) (m : List CoinV) (j : Nat), s0 = .slice A' m.length c' ∧ si = .int .i64 j ∧ j ≤ a.T.outs.length ∧ Hid (m.length ≤ 1000 + j) ∧ Hid (RowIn encC 68 wr wr.heap.size A' c' m) ∧ Hid (addC CoinV.at_ ltP m (madeC id h true j (a.T.outs.drop j)) = R3) ∧ Hid (Below w.heap.size w wr ∧ Blk wr w.heap.size 30 a.cells.toArray ∧ Blk wr (w.heap.size + 1) 27 (encK id).toArray) ∧ Hid (RowIn encC 68 wr wr.heap.size A2 c2 q)) (fun _ si _ => a.T.outs.length - (intOf si).toNat)
        case atStart => exact ⟨A1, c1, m, 0, rfl, rfl, by omega, HM2, HL, HA, HB, QL⟩
        case round =>
          clear HL HA HB QL HM2
          obtain ⟨A1, c1, m, j, rfl, rfl, hj, HM, HL, HA, HB, QL⟩ := hrel
          have k2 := TxA.c2 (RowC.of_blk HB.out.2.1)
          by_cases hlt : j < a.T.outs.length
          · have hd : decide ((j : Int) < (a.T.outs.length : Int)) = true := by simp; omega
            obtain ⟨g0, o0, hA, hg0, hc0⟩ := HI.out.outs.at (encIK_len _) hlt
            rw [hA] at k2
            obtain ⟨oo, hp⟩ : ∃ oo, a.T.outs[j]'hlt = oo := ⟨_, rfl⟩
            rw [hp] at hc0
            have XW := Lib.hid (show ∀ W, Below w.heap.size w W → RowC W g0 (o0 + j * 33) (encIK .i64 oo) from fun W hb => hc0.below hb hg0)
            have HDR := Lib.hid (show a.T.outs.drop j = oo :: a.T.outs.drop (j + 1) by rw [List.drop_eq_getElem_cons hlt, hp])
            have HP := Lib.hid (placeF_of m (id, toU32 j))
            have HJ := Lib.hid (show j + 1 ≤ a.T.outs.length by omega)
            have HV := Lib.hid (show (j : Int) = (toU32 j).1 by show (j : Int) = ((j % 4294967296 : Nat) : Int); omega)
            have HJ2 := Lib.hid (show j < 1000 by omega)
            have hi0 : (0 : Int) ≤ (j : Int) := by omega
            have hi1 : (j : Int) < (a.T.outs.length : Int) := by omega
            have hj3 : j < 1000 := by omega
            have HOA := Lib.hid hA
            clear hA hc0 hp hg0
            go_wp2_with (first
              | ((with_reducible refine at_load 6 ?_); refine tyKc.wpList_load rfl (.tmp 6) rfl (w.heap.size + 1) 0 rfl id (RowC.of_blk HB.out.2.2) ?_)
              | ((with_reducible refine at_build 69 ?_); refine wpList_built rfl 32 #[(0, .tmp 66), (1, .tmp 68)] rfl (encKI .u32 (id, toU32 j)).toArray ((congrArg (Try.prog.built 32) ((show _ = [(0, Value.agg (encK id).toArray), (1, Value.int .u32 (j : Int))] by kernel_rfl).trans (congrArg (fun z => [(0, Value.agg (encK id).toArray), (1, Value.int .u32 z)]) HV.out))).trans (cbuilt_KI _ rfl id (toU32 j))) ?_)
              | ((with_reducible refine at_store 16 69 ?_); refine tyPc.wpList_store rfl (.tmp 16) (.tmp 69) rfl rfl wr.heap.size (id, toU32 j) rfl rfl 32 _ (Blk.new wr _ _) rfl ?_; intro w7 o7 b7
                 have BB := Lib.hid (((Below.refl wr.heap.size wr).alloc (Nat.le_refl _) _).trans (o7.below (by simp)))
                 have HB7 := Lib.hid (show Below w.heap.size w w7 ∧ Blk w7 w.heap.size 30 a.cells.toArray ∧ Blk w7 (w.heap.size + 1) 27 (encK id).toArray from ⟨HB.out.1.trans (BB.out.mono HB.out.1.size), below_blk BB.out HB.out.2.1 HB.out.2.1.lt, below_blk BB.out HB.out.2.2 HB.out.2.2.lt⟩)
                 have L7 := Lib.hid ((HL.out.below BB.out).more BB.out.size)
                 have Q7 := Lib.hid ((QL.out.below BB.out).more BB.out.size)
                 have K7 := Lib.hid b7
                 clear b7 o7 BB)
              | ((with_reducible refine at_load 16 ?_); refine tyPc.wpList_load rfl (.tmp 16) rfl wr.heap.size 0 rfl (id, toU32 j) (RowC.of_blk K7.out) ?_))
            refine (rPlace_r A1 c1 m (id, toU32 j) _ L7.out (by have := HM.out; omega)).mono ?_
            rintro e w8 ⟨rfl, b8⟩
            have HB8 := Lib.hid (show Below w.heap.size w w8 ∧ Blk w8 w.heap.size 30 a.cells.toArray ∧ Blk w8 (w.heap.size + 1) 27 (encK id).toArray from ⟨HB7.out.1.trans (b8.mono HB7.out.1.size), below_blk b8 HB7.out.2.1 HB7.out.2.1.lt, below_blk b8 HB7.out.2.2 HB7.out.2.2.lt⟩)
            have L8 := Lib.hid ((L7.out.below b8).more b8.size)
            have Q8 := Lib.hid ((Q7.out.below b8).more b8.size)
            have K8 := Lib.hid (below_blk b8 K7.out K7.out.lt)
            clear b8 HB7 L7 Q7 K7 k2 HB HL QL
            rcases HP.out with ⟨h1, h2⟩ | ⟨k, hk, h1, h2, h3⟩
            · have HA2 := Lib.hid (show addC CoinV.at_ ltP (putP (⟨(id, toU32 j), oo, h, true⟩ : CoinV) m) (madeC id h true (j + 1) (a.T.outs.drop (j + 1))) = R3 by
                rw [← HA.out, HDR.out]
                exact (add_yes (c := (⟨(id, toU32 j), oo, h, true⟩ : CoinV)) h2).symm)
              rw [h1]
              clear h1 h2
              have K2 := Lib.hid (show ∀ W, Below w8.heap.size w8 W → W.cell? ⟨w.heap.size, 2, none⟩ = some (.slice (some ⟨g0, o0, none⟩) a.T.outs.length a.co) from fun W hb => by
                rw [← HOA.out]
                exact TxA.c2 (RowC.of_blk (below_blk hb HB8.out.2.1 HB8.out.2.1.lt)))
              have XO := Lib.hid (show ∀ W, Below w8.heap.size w8 W → RowC W g0 (o0 + j * 33) (encIK .i64 oo) from fun W hb => XW.out W (HB8.out.1.trans (hb.mono HB8.out.1.size)))
              have KP := Lib.hid (show ∀ W, Below w8.heap.size w8 W → RowC W wr.heap.size 0 (encKI .u32 (id, toU32 j)) from fun W hb => RowC.of_blk (below_blk hb K8.out K8.out.lt))
              go_wp2_with fail
              refine wp_region_held_drew (S := fun W => Below w8.heap.size w8 W) (by kernel_rfl) ((Below.refl w8.heap.size w8).drew) ?_
              intro hS
              refine wpAnyH_take (i := 0) (v := .slice A1 m.length c1) rfl (by kernel_rfl) (by kernel_rfl) (by kernel_rfl) (fun _ _ _ h => h) (Or.inl ⟨by rfl, fun W _ => by go_simp; try with_reducible rfl⟩) hS ?_
              simp only [Act.put, List.getElem_toArray, List.getElem_cons_zero, List.setIfInBounds_toArray, List.set_cons_succ, List.set_cons_zero]
              refine wpAnyH_take (i := 1) (v := .agg (encKI .u32 (id, toU32 j)).toArray) rfl (by kernel_rfl) (by kernel_rfl) (by kernel_rfl) (fun _ _ _ h => h) (tyPt.yieldsIf_load (by rfl) (.tmp 16) rfl wr.heap.size 0 rfl (id, toU32 j) (fun W h => KP.out W h)) hS ?_
              simp only [Act.put, List.getElem_toArray, List.getElem_cons_zero, List.getElem_cons_succ, List.setIfInBounds_toArray, List.set_cons_succ, List.set_cons_zero]
              refine wpAnyH_take (i := 2) (v := .pointer (some ⟨w.heap.size, 2, none⟩)) rfl (by kernel_rfl) (by kernel_rfl) (by kernel_rfl) (fun _ _ _ h => h) (Or.inl ⟨by rfl, fun W _ => by go_simp; try with_reducible rfl⟩) hS ?_
              simp only [Act.put, List.getElem_toArray, List.getElem_cons_zero, List.getElem_cons_succ, List.setIfInBounds_toArray, List.set_cons_succ, List.set_cons_zero]
              refine wpAnyH_take (i := 3) (v := .slice (some ⟨g0, o0, none⟩) a.T.outs.length a.co) rfl (by kernel_rfl) (by kernel_rfl) (by kernel_rfl) (fun _ _ _ h => h) (Or.inl ⟨by rfl, fun W hW => by have k2 := K2.out W hW; go_simp; try with_reducible rfl⟩) hS ?_
              simp only [Act.put, List.getElem_toArray, List.getElem_cons_zero, List.getElem_cons_succ, List.setIfInBounds_toArray, List.set_cons_succ, List.set_cons_zero]
              refine wpAnyH_take (i := 4) (v := .int .i64 j) rfl (by kernel_rfl) (by kernel_rfl) (by kernel_rfl) (fun _ _ _ h => h) (Or.inl ⟨by rfl, fun W _ => by go_simp; try with_reducible rfl⟩) hS ?_
              simp only [Act.put, List.getElem_toArray, List.getElem_cons_zero, List.getElem_cons_succ, List.setIfInBounds_toArray, List.set_cons_succ, List.set_cons_zero]
              refine wpAnyH_take (i := 5) (v := .pointer (some ⟨g0, o0 + j * 33, none⟩)) rfl (by kernel_rfl) (by kernel_rfl) (by kernel_rfl) (fun _ _ _ h => h) (Or.inl ⟨by rfl, fun W _ => by go_simp; try with_reducible rfl⟩) hS ?_
              simp only [Act.put, List.getElem_toArray, List.getElem_cons_zero, List.getElem_cons_succ, List.setIfInBounds_toArray, List.set_cons_succ, List.set_cons_zero]
              refine wpAnyH_take (i := 6) (v := .agg (encIK .i64 oo).toArray) rfl (by kernel_rfl) (by kernel_rfl) (by kernel_rfl) (fun _ _ _ h => h) (tyOut.yieldsIf_load (by rfl) (.tmp 79) rfl g0 (o0 + j * 33) rfl oo (fun W h => XO.out W h)) hS ?_
              simp only [Act.put, List.getElem_toArray, List.getElem_cons_zero, List.getElem_cons_succ, List.setIfInBounds_toArray, List.set_cons_succ, List.set_cons_zero]
              refine wpAnyH_take (i := 7) (v := .int .u32 h.1) rfl (by kernel_rfl) (by kernel_rfl) (by kernel_rfl) (fun _ _ _ h => h) (Or.inl ⟨by rfl, fun W _ => by go_simp; try with_reducible rfl⟩) hS ?_
              simp only [Act.put, List.getElem_toArray, List.getElem_cons_zero, List.getElem_cons_succ, List.setIfInBounds_toArray, List.set_cons_succ, List.set_cons_zero]
              refine wpAnyH_take (i := 8) (v := .bool true) rfl (by kernel_rfl) (by kernel_rfl) (by kernel_rfl) (fun _ _ _ h => h) (Or.inl ⟨by rfl, fun W _ => by go_simp; try with_reducible rfl⟩) hS ?_
              simp only [Act.put, List.getElem_toArray, List.getElem_cons_zero, List.getElem_cons_succ, List.setIfInBounds_toArray, List.set_cons_succ, List.set_cons_zero]
              refine wpAnyH_take (i := 9) (v := .agg (encC (⟨(id, toU32 j), oo, h, true⟩ : CoinV)).toArray) rfl (by kernel_rfl) (by kernel_rfl) (by kernel_rfl) (fun _ _ _ h => h) (yieldsIf_build (by rfl) 52 #[(0, .tmp 75), (1, .tmp 80), (2, .tmp 81), (3, .tmp 82)] rfl (encC (⟨(id, toU32 j), oo, h, true⟩ : CoinV)).toArray ((congrArg (Try.prog.built 52) (show _ = [(0, Value.agg (encKI .u32 (id, toU32 j)).toArray), (1, Value.agg (encIK .i64 oo).toArray), (2, Value.int .u32 h.1), (3, Value.bool true)] by kernel_rfl)).trans (cbuilt_C _ rfl (id, toU32 j) oo h true))) hS ?_
              simp only [Act.put, List.getElem_toArray, List.getElem_cons_zero, List.getElem_cons_succ, List.setIfInBounds_toArray, List.set_cons_succ, List.set_cons_zero]
              refine wpAnyH_ready (rs := [10]) (by kernel_rfl) (by simp) ?_
              refine AllReadyH.cons rfl (fun Kq hK => ?_) AllReadyH.nil
              go_simp
              refine (rPutC_r A1 c1 m (⟨(id, toU32 j), oo, h, true⟩ : CoinV) _ ((L8.out.below hS).more hS.size) (by have := HM.out; omega)).mono ?_
              rintro e y1 ⟨A9, c9, rfl, r9, b9⟩
              have R9 := Lib.hid r9
              refine hK.out _ _ (hS.trans (b9.mono hS.size)) (fun hS => ?_)
              clear hK Kq b9 r9
              refine wpAnyH_take (i := 11) (v := .slice A9 (putP (⟨(id, toU32 j), oo, h, true⟩ : CoinV) m).length c9) rfl (by kernel_rfl) (by kernel_rfl) (by kernel_rfl) (fun _ _ _ h => h) (Or.inl ⟨by rfl, fun W _ => by go_simp; try with_reducible rfl⟩) hS ?_
              simp only [Act.put, List.getElem_toArray, List.getElem_cons_zero, List.getElem_cons_succ, List.setIfInBounds_toArray, List.set_cons_zero]
              refine wpAnyH_done (by kernel_rfl) ?_ _
              have HB9 := Lib.hid (show Below w.heap.size w y1 ∧ Blk y1 w.heap.size 30 a.cells.toArray ∧ Blk y1 (w.heap.size + 1) 27 (encK id).toArray from ⟨HB8.out.1.trans (hS.mono HB8.out.1.size), below_blk hS HB8.out.2.1 HB8.out.2.1.lt, below_blk hS HB8.out.2.2 HB8.out.2.2.lt⟩)
              have Q9 := Lib.hid ((Q8.out.below hS).more hS.size)
              have HM9 := Lib.hid (show (putP (⟨(id, toU32 j), oo, h, true⟩ : CoinV) m).length ≤ 1000 + (j + 1) by rw [putC_len]; have := HM.out; omega)
              clear hS HB8 Q8 L8
              go_wp2_with fail
              go_roundw
              case rel => exact ⟨A9, c9, putP (⟨(id, toU32 j), oo, h, true⟩ : CoinV) m, j + 1, rfl, by go_num, HJ.out, HM9, R9, HA2, HB9, Q9⟩
              case measure => simp [intOf]; omega
            · have HG2 := Lib.hid (show F = .error 4 by
                rw [HG.out, ← HA.out, HDR.out]
                exact congrArg (endQ q) (add_no (c := (⟨(id, toU32 j), oo, h, true⟩ : CoinV)) h2))
              rw [h1]
              have hng : decide ((k : Int) ≥ 0) = true := by simp
              have hng2 : decide ((0 : Int) ≤ (k : Int)) = true := by simp
              clear h1 h2 h3
              go_wp2_with fail
              go_ret3
              rw [HG2.out]
              exact ⟨HB8.out.1, rfl⟩
          · have hd : decide ((j : Int) < (a.T.outs.length : Int)) = false := by simp; omega
            have HG2 := Lib.hid (show F = .ok (m, q) by rw [HG.out, ← HA.out, List.drop_of_length_le (by omega)]; rfl)
            go_wp2_with fail
            go_ret3
            rw [HG2.out]
            exact ⟨HB.out.1, A1, c1, A2, c2, rfl, HL.out, QL.out⟩
    | false =>
      by_cases hlt : j < a.T.ins.length
      · have hd : decide ((j : Int) < (a.T.ins.length : Int)) = true := by simp; omega
        obtain ⟨g0, o0, hA, hg0, hc0⟩ := HI.out.ins.at (encKI_len _) hlt
        rw [hA] at k1
        obtain ⟨p, hp⟩ : ∃ p, a.T.ins[j]'hlt = p := ⟨_, rfl⟩
        rw [hp] at hc0
        have XP := Lib.hid (show RowC wr g0 (o0 + j * 33) (encKI .u32 p) from hc0.below HB.out.1 hg0)
        have HDR := Lib.hid (show a.T.ins.drop j = p :: a.T.ins.drop (j + 1) by rw [List.drop_eq_getElem_cons hlt, hp])
        have HP := Lib.hid (placeF_of m p)
        have HJ := Lib.hid (show j + 1 ≤ a.T.ins.length by omega)
        have hi0 : (0 : Int) ≤ (j : Int) := by omega
        have hi1 : (j : Int) < (a.T.ins.length : Int) := by omega
        clear hA hc0 hp hg0
        go_wp2_with (first
          | ((with_reducible refine at_load 35 ?_); refine tyPt.wpList_load rfl (.tmp 35) rfl g0 (o0 + j * 33) rfl p XP.out ?_))
        refine (rPlace_r A1 c1 m p _ HL.out (by have := HM.out; omega)).mono ?_
        rintro e w1 ⟨rfl, b1⟩
        have HB1 := Lib.hid (show Below w.heap.size w w1 ∧ Blk w1 w.heap.size 30 a.cells.toArray ∧ Blk w1 (w.heap.size + 1) 27 (encK id).toArray from ⟨HB.out.1.trans (b1.mono HB.out.1.size), below_blk b1 HB.out.2.1 HB.out.2.1.lt, below_blk b1 HB.out.2.2 HB.out.2.2.lt⟩)
        have O1 := Lib.hid (cown_below OW.out b1)
        have L1 := Lib.hid ((HL.out.below b1).more b1.size)
        clear b1 HB OW HL XP k1
        rcases HP.out with ⟨h1, h2⟩ | ⟨k, hk, h1, h2, h3⟩
        · have HF2 := Lib.hid (show F = .error 160 by rw [← HF.out, ← HR.out, if_neg (by decide), HDR.out, take_no h2]; rfl)
          rw [h1]
          clear h1 h2
          go_wp2_with fail
          go_ret3
          rw [HF2.out]
          exact ⟨HB1.out.1, rfl⟩
        · rw [h1]
          obtain ⟨g, o, hA, hg, hc⟩ := L1.out.at encC_len hk
          obtain ⟨x, hx⟩ : ∃ x, m[k]'hk = x := ⟨_, rfl⟩
          rw [hx] at hc h2
          subst hA
          have XX := Lib.hid (show ∀ W, Below w1.heap.size w1 W → RowC W g (o + k * 68) (encC x) from fun W hb => hc.below hb hg)
          have hng : decide ((k : Int) < 0) = false := by simp
          have hi2 : (0 : Int) ≤ (k : Int) := by omega
          have hi3 : (k : Int) < (m.length : Int) := by omega
          have HE := Lib.hid (And.intro h2 h3)
          clear h1 h2 h3 hx hc hg
          go_wp2_with (first
            | ((with_reducible refine at_loadg 43 ?_); refine wpList_unguard (by rfl) ?_; refine tyCr.wpList_load rfl (.tmp 43) rfl g (o + k * 68) rfl x (XX.out _ (Below.refl _ _)) ?_))
          refine (rRipe_r x h _).mono ?_
          rintro e w2 ⟨rfl, b2⟩
          have XX2 := Lib.hid (XX.out _ b2)
          have HB2 := Lib.hid (show Below w.heap.size w w2 ∧ Blk w2 w.heap.size 30 a.cells.toArray ∧ Blk w2 (w.heap.size + 1) 27 (encK id).toArray from ⟨HB1.out.1.trans (b2.mono HB1.out.1.size), below_blk b2 HB1.out.2.1 HB1.out.2.1.lt, below_blk b2 HB1.out.2.2 HB1.out.2.2.lt⟩)
          have O2 := Lib.hid (cown_below O1.out b2)
          have L2 := Lib.hid ((L1.out.below b2).more b2.size)
          clear b2 HB1 O1 L1 XX
          obtain ⟨rp, hrp⟩ : ∃ rp, ripeF x h = rp := ⟨_, rfl⟩
          rw [hrp]
          cases rp with
          | false =>
            have HF2 := Lib.hid (show F = .error 160 by rw [← HF.out, ← HR.out, if_neg (by decide), HDR.out, take_raw HE.out.1 hrp]; rfl)
            clear hrp
            go_wp2_with fail
            go_ret3
            rw [HF2.out]
            exact ⟨HB2.out.1, rfl⟩
          | true =>
            have HR2 := Lib.hid (show (if false = true then some (m.eraseIdx k, q ++ [x]) else withC (q ++ [x]) (takeC CoinV.at_ (fun c => ripeF c h) (m.eraseIdx k) (a.T.ins.drop (j + 1)))) = R by
              rw [if_neg (by decide), ← HR.out, if_neg (by decide), HDR.out, take_yes HE.out.1 HE.out.2 hrp, withC_cons])
            have HNE := Lib.hid (show ∀ b, (some ⟨g, o, none⟩ : Option Addr) = some b → some b.block ≠ u11.ownBlock from fun b hb => by
              rcases HX.out b hb with h | h
              · exact h
              · rw [h] at hk
                exact absurd hk (by simp))
            have HQ := Lib.hid (show q.length ≤ 1000 by have := HM.out; omega)
            clear hrp
            go_wp2_with (first
              | ((with_reducible refine at_load 52 ?_); refine tyCr.wpList_load rfl (.tmp 52) rfl g (o + k * 68) rfl x XX2.out ?_)
              | ((with_reducible refine at_buildSlice 54 ?_); refine tyCr.wpList_build rfl czsR 1 _ rfl [x] rfl (by omega) (by omega) (by kernel_rfl) ?_)
              | ((with_reducible refine at_appendg 55 49 54 ?_); refine tyCr.wpList_append1 rfl czcR bb HBB.out HBL.out (.tmp 49) (.tmp 54) rfl (w.heap.size + 2) _ q rfl (O2.out.alloc _) _ 1 x rfl (Blk.new _ _ _) (by have := HQ.out; omega) (by have := HB2.out.2.2.lt; simp; omega) ?_; intro v5 w5 p5 g5
                 have L5 := Lib.hid (crow_apart ((L2.out.below ((Below.refl _ _).alloc (Nat.le_refl _) _)).more (by simp)) g5 HNE.out)
                 have BB := Lib.hid (((Below.refl (w.heap.size + 2) w2).alloc (by have := HB2.out.2.2.lt; omega) _).trans (cown_grown (O2.out.alloc _) g5 (by have := HB2.out.2.2.lt; simp; omega)))
                 have HB5 := Lib.hid (show Below w.heap.size w w5 ∧ Blk w5 w.heap.size 30 a.cells.toArray ∧ Blk w5 (w.heap.size + 1) 27 (encK id).toArray from ⟨HB2.out.1.trans (BB.out.mono (by omega)), below_blk BB.out HB2.out.2.1 (by omega), below_blk BB.out HB2.out.2.2 (by omega)⟩)
                 have O5 := Lib.hid (cown_congr (m := q ++ [x]) p5 rfl)
                 clear p5 g5 BB))
            refine (rWithout_r (some ⟨g, o, none⟩) c1 m k _ L5.out (by have := HM.out; omega)).mono ?_
            rintro e w6 ⟨A6, c6, rfl, r6, b6, f6⟩
            have HB6 := Lib.hid (show Below w.heap.size w w6 ∧ Blk w6 w.heap.size 30 a.cells.toArray ∧ Blk w6 (w.heap.size + 1) 27 (encK id).toArray from ⟨HB5.out.1.trans (b6.mono HB5.out.1.size), below_blk b6 HB5.out.2.1 HB5.out.2.1.lt, below_blk b6 HB5.out.2.2 HB5.out.2.2.lt⟩)
            have O6 := Lib.hid (cown_below O5.out b6)
            have L6 := Lib.hid r6
            have HX6 := Lib.hid (show ∀ b, A6 = some b → some b.block ≠ v5.ownBlock ∨ m.eraseIdx k = [] from fun b hb => .inl fun e => absurd (cown_lt O5.out b.block e.symm) (by have := f6 b hb; omega))
            have HM6 := Lib.hid (show (m.eraseIdx k).length ≤ 1000 ∧ (q ++ [x]).length ≤ j + 1 from ⟨Nat.le_trans (List.length_eraseIdx_le _ _) HM.out.1, by rw [List.length_append]; have := HM.out.2; simp; omega⟩)
            clear r6 b6 f6 HB5 O5 L5
            go_wp2_with fail
            go_roundw
            case rel => exact ⟨A6, c6, m.eraseIdx k, q ++ [x], j + 1, rfl, by go_num, HJ.out, HM6, L6, O6, HX6, HR2, HB6⟩
            case measure => simp [intOf]; omega
      · have hd : decide ((j : Int) < (a.T.ins.length : Int)) = false := by simp; omega
        have HR2 := Lib.hid (show some (m, q) = R by
          rw [← HR.out, if_neg (by decide), List.drop_of_length_le (by omega)]
          simp [takeC, withC])
        obtain ⟨A2, c2, hv, r2⟩ := RowIn.of_own encC_len OW.out
        subst hv
        have QL := Lib.hid r2
        obtain ⟨R3, hR3⟩ : ∃ R3, addC CoinV.at_ ltP m (madeC id h false 0 a.T.outs) = R3 := ⟨_, rfl⟩
        have HG := Lib.hid (show F = endQ q R3 by rw [← HF.out, ← HR2.out, ← hR3]; rfl)
        have HA := Lib.hid (show addC CoinV.at_ ltP m (madeC id h false 0 (a.T.outs.drop 0)) = R3 from hR3)
        have HM2 := Lib.hid (show m.length ≤ 1000 + 0 from HM.out.1)
        clear r2 hR3 HR HR2 OW HX HM HF
        go_wp2_with fail
        clear k1
        go_loopw [0, 15] (fun s0 si wr => ∃ (A' : Option Addr) (c' : Nat) (m : List CoinV) (j : Nat), s0 = .slice A' m.length c' ∧ si = .int .i64 j ∧ j ≤ a.T.outs.length ∧ Hid (m.length ≤ 1000 + j) ∧ Hid (RowIn encC 68 wr wr.heap.size A' c' m) ∧ Hid (addC CoinV.at_ ltP m (madeC id h false j (a.T.outs.drop j)) = R3) ∧ Hid (Below w.heap.size w wr ∧ Blk wr w.heap.size 30 a.cells.toArray ∧ Blk wr (w.heap.size + 1) 27 (encK id).toArray) ∧ Hid (RowIn encC 68 wr wr.heap.size A2 c2 q)) (fun _ si _ => a.T.outs.length - (intOf si).toNat)
        case atStart => exact ⟨A1, c1, m, 0, rfl, rfl, by omega, HM2, HL, HA, HB, QL⟩
        case round =>
          clear HL HA HB QL HM2
          obtain ⟨A1, c1, m, j, rfl, rfl, hj, HM, HL, HA, HB, QL⟩ := hrel
          have k2 := TxA.c2 (RowC.of_blk HB.out.2.1)
          by_cases hlt : j < a.T.outs.length
          · have hd : decide ((j : Int) < (a.T.outs.length : Int)) = true := by simp; omega
            obtain ⟨g0, o0, hA, hg0, hc0⟩ := HI.out.outs.at (encIK_len _) hlt
            rw [hA] at k2
            obtain ⟨oo, hp⟩ : ∃ oo, a.T.outs[j]'hlt = oo := ⟨_, rfl⟩
            rw [hp] at hc0
            have XW := Lib.hid (show ∀ W, Below w.heap.size w W → RowC W g0 (o0 + j * 33) (encIK .i64 oo) from fun W hb => hc0.below hb hg0)
            have HDR := Lib.hid (show a.T.outs.drop j = oo :: a.T.outs.drop (j + 1) by rw [List.drop_eq_getElem_cons hlt, hp])
            have HP := Lib.hid (placeF_of m (id, toU32 j))
            have HJ := Lib.hid (show j + 1 ≤ a.T.outs.length by omega)
            have HV := Lib.hid (show (j : Int) = (toU32 j).1 by show (j : Int) = ((j % 4294967296 : Nat) : Int); omega)
            have HJ2 := Lib.hid (show j < 1000 by omega)
            have hi0 : (0 : Int) ≤ (j : Int) := by omega
            have hi1 : (j : Int) < (a.T.outs.length : Int) := by omega
            have hj3 : j < 1000 := by omega
            have HOA := Lib.hid hA
            clear hA hc0 hp hg0
            go_wp2_with (first
              | ((with_reducible refine at_load 6 ?_); refine tyKc.wpList_load rfl (.tmp 6) rfl (w.heap.size + 1) 0 rfl id (RowC.of_blk HB.out.2.2) ?_)
              | ((with_reducible refine at_build 69 ?_); refine wpList_built rfl 32 #[(0, .tmp 66), (1, .tmp 68)] rfl (encKI .u32 (id, toU32 j)).toArray ((congrArg (Try.prog.built 32) ((show _ = [(0, Value.agg (encK id).toArray), (1, Value.int .u32 (j : Int))] by kernel_rfl).trans (congrArg (fun z => [(0, Value.agg (encK id).toArray), (1, Value.int .u32 z)]) HV.out))).trans (cbuilt_KI _ rfl id (toU32 j))) ?_)
              | ((with_reducible refine at_store 16 69 ?_); refine tyPc.wpList_store rfl (.tmp 16) (.tmp 69) rfl rfl wr.heap.size (id, toU32 j) rfl rfl 32 _ (Blk.new wr _ _) rfl ?_; intro w7 o7 b7
                 have BB := Lib.hid (((Below.refl wr.heap.size wr).alloc (Nat.le_refl _) _).trans (o7.below (by simp)))
                 have HB7 := Lib.hid (show Below w.heap.size w w7 ∧ Blk w7 w.heap.size 30 a.cells.toArray ∧ Blk w7 (w.heap.size + 1) 27 (encK id).toArray from ⟨HB.out.1.trans (BB.out.mono HB.out.1.size), below_blk BB.out HB.out.2.1 HB.out.2.1.lt, below_blk BB.out HB.out.2.2 HB.out.2.2.lt⟩)
                 have L7 := Lib.hid ((HL.out.below BB.out).more BB.out.size)
                 have Q7 := Lib.hid ((QL.out.below BB.out).more BB.out.size)
                 have K7 := Lib.hid b7
                 clear b7 o7 BB)
              | ((with_reducible refine at_load 16 ?_); refine tyPc.wpList_load rfl (.tmp 16) rfl wr.heap.size 0 rfl (id, toU32 j) (RowC.of_blk K7.out) ?_))
            refine (rPlace_r A1 c1 m (id, toU32 j) _ L7.out (by have := HM.out; omega)).mono ?_
            rintro e w8 ⟨rfl, b8⟩
            have HB8 := Lib.hid (show Below w.heap.size w w8 ∧ Blk w8 w.heap.size 30 a.cells.toArray ∧ Blk w8 (w.heap.size + 1) 27 (encK id).toArray from ⟨HB7.out.1.trans (b8.mono HB7.out.1.size), below_blk b8 HB7.out.2.1 HB7.out.2.1.lt, below_blk b8 HB7.out.2.2 HB7.out.2.2.lt⟩)
            have L8 := Lib.hid ((L7.out.below b8).more b8.size)
            have Q8 := Lib.hid ((Q7.out.below b8).more b8.size)
            have K8 := Lib.hid (below_blk b8 K7.out K7.out.lt)
            clear b8 HB7 L7 Q7 K7 k2 HB HL QL
            rcases HP.out with ⟨h1, h2⟩ | ⟨k, hk, h1, h2, h3⟩
            · have HA2 := Lib.hid (show addC CoinV.at_ ltP (putP (⟨(id, toU32 j), oo, h, false⟩ : CoinV) m) (madeC id h false (j + 1) (a.T.outs.drop (j + 1))) = R3 by
                rw [← HA.out, HDR.out]
                exact (add_yes (c := (⟨(id, toU32 j), oo, h, false⟩ : CoinV)) h2).symm)
              rw [h1]
              clear h1 h2
              have K2 := Lib.hid (show ∀ W, Below w8.heap.size w8 W → W.cell? ⟨w.heap.size, 2, none⟩ = some (.slice (some ⟨g0, o0, none⟩) a.T.outs.length a.co) from fun W hb => by
                rw [← HOA.out]
                exact TxA.c2 (RowC.of_blk (below_blk hb HB8.out.2.1 HB8.out.2.1.lt)))
              have XO := Lib.hid (show ∀ W, Below w8.heap.size w8 W → RowC W g0 (o0 + j * 33) (encIK .i64 oo) from fun W hb => XW.out W (HB8.out.1.trans (hb.mono HB8.out.1.size)))
              have KP := Lib.hid (show ∀ W, Below w8.heap.size w8 W → RowC W wr.heap.size 0 (encKI .u32 (id, toU32 j)) from fun W hb => RowC.of_blk (below_blk hb K8.out K8.out.lt))
              go_wp2_with fail
              refine wp_region_held_drew (S := fun W => Below w8.heap.size w8 W) (by kernel_rfl) ((Below.refl w8.heap.size w8).drew) ?_
              intro hS
              refine wpAnyH_take (i := 0) (v := .slice A1 m.length c1) rfl (by kernel_rfl) (by kernel_rfl) (by kernel_rfl) (fun _ _ _ h => h) (Or.inl ⟨by rfl, fun W _ => by go_simp; try with_reducible rfl⟩) hS ?_
              simp only [Act.put, List.getElem_toArray, List.getElem_cons_zero, List.setIfInBounds_toArray, List.set_cons_succ, List.set_cons_zero]
              refine wpAnyH_take (i := 1) (v := .agg (encKI .u32 (id, toU32 j)).toArray) rfl (by kernel_rfl) (by kernel_rfl) (by kernel_rfl) (fun _ _ _ h => h) (tyPt.yieldsIf_load (by rfl) (.tmp 16) rfl wr.heap.size 0 rfl (id, toU32 j) (fun W h => KP.out W h)) hS ?_
              simp only [Act.put, List.getElem_toArray, List.getElem_cons_zero, List.getElem_cons_succ, List.setIfInBounds_toArray, List.set_cons_succ, List.set_cons_zero]
              refine wpAnyH_take (i := 2) (v := .pointer (some ⟨w.heap.size, 2, none⟩)) rfl (by kernel_rfl) (by kernel_rfl) (by kernel_rfl) (fun _ _ _ h => h) (Or.inl ⟨by rfl, fun W _ => by go_simp; try with_reducible rfl⟩) hS ?_
              simp only [Act.put, List.getElem_toArray, List.getElem_cons_zero, List.getElem_cons_succ, List.setIfInBounds_toArray, List.set_cons_succ, List.set_cons_zero]
              refine wpAnyH_take (i := 3) (v := .slice (some ⟨g0, o0, none⟩) a.T.outs.length a.co) rfl (by kernel_rfl) (by kernel_rfl) (by kernel_rfl) (fun _ _ _ h => h) (Or.inl ⟨by rfl, fun W hW => by have k2 := K2.out W hW; go_simp; try with_reducible rfl⟩) hS ?_
              simp only [Act.put, List.getElem_toArray, List.getElem_cons_zero, List.getElem_cons_succ, List.setIfInBounds_toArray, List.set_cons_succ, List.set_cons_zero]
              refine wpAnyH_take (i := 4) (v := .int .i64 j) rfl (by kernel_rfl) (by kernel_rfl) (by kernel_rfl) (fun _ _ _ h => h) (Or.inl ⟨by rfl, fun W _ => by go_simp; try with_reducible rfl⟩) hS ?_
              simp only [Act.put, List.getElem_toArray, List.getElem_cons_zero, List.getElem_cons_succ, List.setIfInBounds_toArray, List.set_cons_succ, List.set_cons_zero]
              refine wpAnyH_take (i := 5) (v := .pointer (some ⟨g0, o0 + j * 33, none⟩)) rfl (by kernel_rfl) (by kernel_rfl) (by kernel_rfl) (fun _ _ _ h => h) (Or.inl ⟨by rfl, fun W _ => by go_simp; try with_reducible rfl⟩) hS ?_
              simp only [Act.put, List.getElem_toArray, List.getElem_cons_zero, List.getElem_cons_succ, List.setIfInBounds_toArray, List.set_cons_succ, List.set_cons_zero]
              refine wpAnyH_take (i := 6) (v := .agg (encIK .i64 oo).toArray) rfl (by kernel_rfl) (by kernel_rfl) (by kernel_rfl) (fun _ _ _ h => h) (tyOut.yieldsIf_load (by rfl) (.tmp 79) rfl g0 (o0 + j * 33) rfl oo (fun W h => XO.out W h)) hS ?_
              simp only [Act.put, List.getElem_toArray, List.getElem_cons_zero, List.getElem_cons_succ, List.setIfInBounds_toArray, List.set_cons_succ, List.set_cons_zero]
              refine wpAnyH_take (i := 7) (v := .int .u32 h.1) rfl (by kernel_rfl) (by kernel_rfl) (by kernel_rfl) (fun _ _ _ h => h) (Or.inl ⟨by rfl, fun W _ => by go_simp; try with_reducible rfl⟩) hS ?_
              simp only [Act.put, List.getElem_toArray, List.getElem_cons_zero, List.getElem_cons_succ, List.setIfInBounds_toArray, List.set_cons_succ, List.set_cons_zero]
              refine wpAnyH_take (i := 8) (v := .bool false) rfl (by kernel_rfl) (by kernel_rfl) (by kernel_rfl) (fun _ _ _ h => h) (Or.inl ⟨by rfl, fun W _ => by go_simp; try with_reducible rfl⟩) hS ?_
              simp only [Act.put, List.getElem_toArray, List.getElem_cons_zero, List.getElem_cons_succ, List.setIfInBounds_toArray, List.set_cons_succ, List.set_cons_zero]
              refine wpAnyH_take (i := 9) (v := .agg (encC (⟨(id, toU32 j), oo, h, false⟩ : CoinV)).toArray) rfl (by kernel_rfl) (by kernel_rfl) (by kernel_rfl) (fun _ _ _ h => h) (yieldsIf_build (by rfl) 52 #[(0, .tmp 75), (1, .tmp 80), (2, .tmp 81), (3, .tmp 82)] rfl (encC (⟨(id, toU32 j), oo, h, false⟩ : CoinV)).toArray ((congrArg (Try.prog.built 52) (show _ = [(0, Value.agg (encKI .u32 (id, toU32 j)).toArray), (1, Value.agg (encIK .i64 oo).toArray), (2, Value.int .u32 h.1), (3, Value.bool false)] by kernel_rfl)).trans (cbuilt_C _ rfl (id, toU32 j) oo h false))) hS ?_
              simp only [Act.put, List.getElem_toArray, List.getElem_cons_zero, List.getElem_cons_succ, List.setIfInBounds_toArray, List.set_cons_succ, List.set_cons_zero]
              refine wpAnyH_ready (rs := [10]) (by kernel_rfl) (by simp) ?_
              refine AllReadyH.cons rfl (fun Kq hK => ?_) AllReadyH.nil
              go_simp
              refine (rPutC_r A1 c1 m (⟨(id, toU32 j), oo, h, false⟩ : CoinV) _ ((L8.out.below hS).more hS.size) (by have := HM.out; omega)).mono ?_
              rintro e y1 ⟨A9, c9, rfl, r9, b9⟩
              have R9 := Lib.hid r9
              refine hK.out _ _ (hS.trans (b9.mono hS.size)) (fun hS => ?_)
              clear hK Kq b9 r9
              refine wpAnyH_take (i := 11) (v := .slice A9 (putP (⟨(id, toU32 j), oo, h, false⟩ : CoinV) m).length c9) rfl (by kernel_rfl) (by kernel_rfl) (by kernel_rfl) (fun _ _ _ h => h) (Or.inl ⟨by rfl, fun W _ => by go_simp; try with_reducible rfl⟩) hS ?_
              simp only [Act.put, List.getElem_toArray, List.getElem_cons_zero, List.getElem_cons_succ, List.setIfInBounds_toArray, List.set_cons_zero]
              refine wpAnyH_done (by kernel_rfl) ?_ _
              have HB9 := Lib.hid (show Below w.heap.size w y1 ∧ Blk y1 w.heap.size 30 a.cells.toArray ∧ Blk y1 (w.heap.size + 1) 27 (encK id).toArray from ⟨HB8.out.1.trans (hS.mono HB8.out.1.size), below_blk hS HB8.out.2.1 HB8.out.2.1.lt, below_blk hS HB8.out.2.2 HB8.out.2.2.lt⟩)
              have Q9 := Lib.hid ((Q8.out.below hS).more hS.size)
              have HM9 := Lib.hid (show (putP (⟨(id, toU32 j), oo, h, false⟩ : CoinV) m).length ≤ 1000 + (j + 1) by rw [putC_len]; have := HM.out; omega)
              clear hS HB8 Q8 L8
              go_wp2_with fail
              go_roundw
              case rel => exact ⟨A9, c9, putP (⟨(id, toU32 j), oo, h, false⟩ : CoinV) m, j + 1, rfl, by go_num, HJ.out, HM9, R9, HA2, HB9, Q9⟩
              case measure => simp [intOf]; omega
            · have HG2 := Lib.hid (show F = .error 4 by
                rw [HG.out, ← HA.out, HDR.out]
                exact congrArg (endQ q) (add_no (c := (⟨(id, toU32 j), oo, h, false⟩ : CoinV)) h2))
              rw [h1]
              have hng : decide ((k : Int) ≥ 0) = true := by simp
              have hng2 : decide ((0 : Int) ≤ (k : Int)) = true := by simp
              clear h1 h2 h3
              go_wp2_with fail
              go_ret3
              rw [HG2.out]
              exact ⟨HB8.out.1, rfl⟩
          · have hd : decide ((j : Int) < (a.T.outs.length : Int)) = false := by simp; omega
            have HG2 := Lib.hid (show F = .ok (m, q) by rw [HG.out, ← HA.out, List.drop_of_length_le (by omega)]; rfl)
            go_wp2_with fail
            go_ret3
            rw [HG2.out]
            exact ⟨HB.out.1, A1, c1, A2, c2, rfl, HL.out, QL.out⟩
end Go.Proofs.Ytkjgmhamglhggaa
