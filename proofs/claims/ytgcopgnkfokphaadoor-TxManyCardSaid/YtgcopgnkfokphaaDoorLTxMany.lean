/- TxMany: a transaction with too many things of one kind has no bytes, and no name; its bytes are refused as soon as that is told: the statement's walk. Written by genMany.py. -/
import Derived.Test.YtgcopgnkfokphaaDoorTxI
import Derived.Test.YtgcopgnkfokphaaDoorTxOw
import Derived.Test.YtgcopgnkfokphaaDoorTxH
import Derived.Test.YtgcopgnkfokphaaDoorRoots
namespace Go.Proofs.YtgcopgnkfokphaaDoor
open Go.RowKit
/-- what lies there while the list grows: the key, then the transaction -/
structure MaS (w0 : World) (k : K32) (a : TxA) (w : World) : Prop where
  below : Below w0.heap.size w0 w
  size : w0.heap.size + 2 ≤ w.heap.size
  k5 : Blk w w0.heap.size 26 (encK k).toArray
  k3 : Blk w (w0.heap.size + 1) 29 a.cells.toArray
section
variable {w0 w w' : World} {a a' : TxA} {k : K32}
theorem MaS.step (h : MaS w0 k a w) (b : Below (w0.heap.size + 2) w w') : MaS w0 k a w' where
  below := h.below.trans (b.mono (by omega))
  size := Nat.le_trans h.size b.size
  k5 := below_blk b h.k5 (by omega)
  k3 := below_blk b h.k3 (by omega)
theorem MaS.call (h : MaS w0 k a w) (b : Below w.heap.size w w') : MaS w0 k a w' := h.step (b.mono h.size)
theorem MaS.set (h : MaS w0 k a w) (o : Only [w0.heap.size + 1] w w') (b : Blk w' (w0.heap.size + 1) 29 a'.cells.toArray) : MaS w0 k a' w' where
  below := h.below.trans (o.below (by simp))
  size := by rw [o.size]; exact h.size
  k5 := o.blk h.k5 (by simp)
  k3 := b
end
theorem built_K1 (t : TypeId) (ht : t = 39) (k : K32) : Tryd.prog.built t [(0, .agg (encK k).toArray)] = some (encKI .u32 (k, toU32 0)).toArray := by
  subst ht
  obtain ⟨l, hl⟩ := k
  iterate 32 (rcases l with _ | ⟨b, l⟩; · simp at hl)
  rcases l with _ | ⟨b, l⟩
  · kernel_rfl
  · simp at hl
theorem built_K2 (t : TypeId) (ht : t = 41) (k : K32) : Tryd.prog.built t [(1, .agg (encK k).toArray)] = some (encIK .i64 (toI64 0, k)).toArray := by
  subst ht
  obtain ⟨l, hl⟩ := k
  iterate 32 (rcases l with _ | ⟨b, l⟩; · simp at hl)
  rcases l with _ | ⟨b, l⟩
  · kernel_rfl
  · simp at hl
/-- too many of one kind, or as many as may be -/
theorem encF_many (T : TxV) (m : Nat) (hz : T.anchor = zeroKey) (hm : (40 < T.ins.length ∨ 40 < T.outs.length ∨ 40 < T.nulls.length ∨ 40 < T.notes.length) ↔ 40 < m) :
    (40 < m → encF T = ([], 51) ∧ idF T = (zeroKey, 51)) ∧ (¬ 40 < m → encF T = (txB T, 0) ∧ (idF T).2 = 0) := by
  constructor
  · intro hm'
    have he : encF T = ([], 51) := by unfold encF; rw [if_pos (hm.2 hm')]
    exact ⟨he, by unfold idF; rw [he]; rfl⟩
  · intro hm'
    have he : encF T = (txB T, 0) := by unfold encF; rw [if_neg (fun q => hm' (hm.1 q)), if_neg (fun q => q.2 hz)]
    exact ⟨he, by unfold idF; rw [he]; rfl⟩
set_option maxRecDepth 20000 in
set_option maxHeartbeats 4000000 in
theorem many0_walk (n m q b : Nat) (kd : Int) (k : K32) (hm : (wrap64 (n : Int)).tmod 60 = (m : Nat)) (hm60 : m < 60) (hq : (n : Int).tmod 100 = (q : Nat)) (hq100 : q < 100) (hb : b = 41 + q) (hkd : kd.tmod 4 = 0) (w : World) (hR : Roots w) :
    Calls Tryd.prog 4 #[.int .u8 n, .int .u8 kd, .agg (encK k).toArray] w fun e w' => e = .returned (.bool true) ∧ Below w.heap.size w w' := by
  have l0 := hR.lt0
  have l1 := hR.lt1
  have HR := Lib.hid hR
  have HQ := Lib.hid (And.intro hq hq100)
  have HB := Lib.hid hb
  clear hR hq hq100 hb
  go_enter Tryd.func4, Tryd.ntmps4
  go_wp2_with (first
    | ((with_reducible refine at_build 19 ?_); refine wpList_built rfl 29 #[] rfl aZ.cells.toArray (by kernel_rfl) ?_)
    | ((with_reducible refine at_store 8 19 ?_); refine tyTx.wpList_store rfl (.tmp 8) (.tmp 19) rfl rfl (w.heap.size + 1) aZ rfl rfl 29 _ (blk_new _ _ (by simp)) rfl ?_; intro w1 o1 b1
       have ST0 := Lib.hid (show MaS w k ({ aZ with T := { noTx with ins := [] }, Ai := none, ci := 0 } : TxA) w1 from ⟨(((Below.refl w.heap.size w).alloc (Nat.le_refl _) _).alloc (by simp) _).trans (o1.below (by simp)), by rw [o1.size]; simp, o1.blk ((Blk.new w _ _).alloc _) (by simp), b1⟩)
       clear o1 b1))
  go_loopw [9] (fun i wr => ∃ (j : Nat) (lst : List (K32 × IntV .u32)) (A : Option Addr) (c : Nat), j ≤ m ∧ i = .int .i64 (j : Nat) ∧ Hid (lst.length = j) ∧ Hid (wr.ownsRow (w.heap.size + 2) 39 33 (.slice A lst.length c) lst.length (cellsOf (encKI .u32) lst)) ∧ Hid (MaS w k ({ aZ with T := { noTx with ins := lst }, Ai := A, ci := c } : TxA) wr)) (fun i _ => m - (intOf i).toNat)
  case atStart => exact ⟨0, [], none, 0, by omega, rfl, Lib.hid rfl, Lib.hid (World.ownsRow_nil _ _ _ _), ST0⟩
  case round =>
    clear ST0
    obtain ⟨j, lst, A, c, hj, rfl, HJ, OV, ST⟩ := hrel
    by_cases hlt : j < m
    · have cell := TxA.c1 (RowC.of_blk ST.out.k3)
      go_wp2_with (first
        | ((with_reducible refine at_load 5 ?_); refine tyKy.wpList_load rfl (.tmp 5) rfl w.heap.size 0 rfl k (by simpa [encK] using RowC.of_blk ST.out.k5) ?_)
        | ((with_reducible refine at_build 32 ?_); refine wpList_built rfl 39 #[(0, .tmp 31)] rfl ((encKI .u32) (k, toU32 0)).toArray ((congrArg (Tryd.prog.built 39) (show _ = [(0, Value.agg (encK k).toArray)] by kernel_rfl)).trans (built_K1 _ rfl k)) ?_)
        | ((with_reducible refine at_buildSlice 33 ?_); refine tyPt.wpList_build rfl zsPt 1 _ rfl [(k, toU32 0)] rfl (by omega) (by omega) (by kernel_rfl) ?_)
        | ((with_reducible refine at_appendg 34 30 33 ?_); refine tyPt.wpList_append1 rfl zcPt 36 zbPt (by omega) (.tmp 30) (.tmp 33) rfl (w.heap.size + 2) _ lst rfl (OV.out.alloc _) _ 1 (k, toU32 0) rfl (Blk.new _ _ _) (by rw [HJ.out]; omega) (by have := ST.out.size; simp; omega) ?_; intro v4 w4 p4 g4
           obtain ⟨L2, hL2⟩ : ∃ L2, lst ++ [(k, toU32 0)] = L2 := ⟨_, rfl⟩
           rw [hL2] at p4
           have HL2 := Lib.hid hL2
           clear hL2
           obtain ⟨A4, c4, rfl⟩ := own_shape p4
           have OW := Lib.hid p4
           have ST' := Lib.hid (ST.out.step (((Below.refl _ _).alloc ST.out.size _).trans (xown_grown (OV.out.alloc _) g4 (by have := ST.out.size; simp; omega))))
           clear p4 g4 OV cell
           clear ST; have ST := ST'; clear ST')
        | ((with_reducible refine at_store 35 34 ?_); refine wpList_store_cell rfl 23 (.tmp 35) (.tmp 34) rfl rfl (w.heap.size + 1) 1 (.slice A4 L2.length c4) rfl rfl rfl 29 _ ST.out.k3 (by rw [tyTx.arr]; omega) (by kernel_rfl) ?_; intro w5 ox bx; rw [TxA.set_ins'] at bx
           have OV := Lib.hid (xown_only OW.out ox ST.out.k3 (by decide))
           have ST' := Lib.hid (ST.out.set (a' := ({ aZ with T := { noTx with ins := L2 }, Ai := A4, ci := c4 } : TxA)) ox bx)
           clear ox bx OW
           clear ST; have ST := ST'; clear ST'))
      have e1 : L2.length = j + 1 := by rw [← HL2.out, List.length_append, HJ.out]; rfl
      go_roundw
      case rel => exact ⟨j + 1, L2, A4, c4, by omega, by go_num, Lib.hid e1, OV, ST⟩
      case measure => simp [intOf]; omega
    · have hjm : j = m := by omega
      subst hjm
      obtain ⟨a, ha⟩ : ∃ a : TxA, ({ aZ with T := { noTx with ins := lst }, Ai := A, ci := c } : TxA) = a := ⟨_, rfl⟩
      have HIN := Lib.hid (show a.In wr wr.heap.size by rw [← ha]; exact ⟨row_own (encKI_len _) OV.out, RowIn.nil (Nat.zero_le _), RowIn.nil (Nat.zero_le _), RowIn.nil (Nat.zero_le _)⟩)
      have HF := encF_many a.T j (by rw [← ha]; rfl) (by rw [← ha]; have := HJ.out; simp [noTx]; omega)
      rw [ha] at ST
      clear ha OV HJ
      have HRW := Lib.hid (HR.out.below ST.out.below l0 l1)
      have W1 : 1 < wr.heap.size := by have := ST.out.size; omega
      have hb8 : IntKind.u8.wrap (41 + (q : Int)) = (b : Int) := by have h1 := HQ.out.2; have h2 := HB.out; rw [IntKind.wrap_u8]; omega
      have hb8' : (41 + (q : Int)) % 256 = (b : Int) := by have h1 := HQ.out.2; have h2 := HB.out; omega
      have hbb : b < 256 := by have h1 := HQ.out.2; have h2 := HB.out; omega
      have hq : (n : Int).tmod 100 = (q : Nat) := HQ.out.1
      obtain ⟨y, hy⟩ : ∃ y : UInt8, y.toNat = b := ⟨UInt8.ofNat b, by simp; omega⟩
      have hconv : ∀ W : World, (convert 44 9 (.slice (some ⟨W.heap.size, 0, none⟩) 1 1)).run Tryd.prog (W.alloc (.cells #[.int .u8 (b : Int)] 5)) = .ok (.string ⟨#[y]⟩) (W.alloc (.cells #[.int .u8 (b : Int)] 5)) := fun W => by
        rw [← hy]
        exact conv_blk (l := [y]) (m := 1) (Blk.new W 5 (bytesA [y])) rfl
      have hadd : ∀ V, (Op.stringOp .add ⟨#[0, 0, 0, 0]⟩ ⟨#[y]⟩).run Tryd.prog V = .ok (.string ⟨#[0, 0, 0, 0, y]⟩) V := fun V => run_string_add_lists V [0, 0, 0, 0] [y] (by simp) (by simp)
      have HD := Lib.hid (show ∀ w, Calls Tryd.prog 16 #[.string ⟨#[0, 0, 0, 0, y]⟩] w (EndD w (noTx, 51)) from fun w => by
        have h1 := dec_r [0, 0, 0, 0, y] (by simp) w
        rw [show decTx [0, 0, 0, 0, y] = (noTx, 51) by unfold decTx; rw [txR_many y [] (by have := HB.out; omega) (by have h1 := HQ.out.2; have h2 := HB.out; omega)]] at h1
        exact h1)
      have KT := Lib.hid ST.out.k3
      have BL := Lib.hid ST.out.below
      obtain ⟨nm, er, he, hi, hd1, hd2, h51, h0⟩ : ∃ (nm : K32) (er : Int), (∃ s, encF a.T = (s, er)) ∧ idF a.T = (nm, er) ∧ True ∧ True ∧ (er == 51) = decide ((40 : Int) < (j : Int)) ∧ (er == 0) = decide ((j : Int) ≤ 40) := by
        by_cases h40 : 40 < j
        · obtain ⟨h1, h2⟩ := HF.1 h40
          exact ⟨_, 51, ⟨_, h1⟩, h2, trivial, trivial, by simp; omega, by simp; omega⟩
        · obtain ⟨h1, h2⟩ := HF.2 h40
          exact ⟨(idF a.T).1, 0, ⟨_, h1⟩, by rw [← h2], trivial, trivial, by simp; omega, by simp; omega⟩
      obtain ⟨s, he⟩ := he
      have HE := Lib.hid he
      have HID := Lib.hid hi
      clear hd1 hd2 HF hy he hi ST HQ HB
      go_wp2_with ((with_reducible refine at_load 8 ?_); refine tyTx.wpList_load rfl (.tmp 8) rfl (w.heap.size + 1) 0 rfl a (by simpa using RowC.of_blk KT.out) ?_)
      refine (encA_any a _ HIN.out).mono ?_
      rintro e w2 ⟨rfl, b2⟩
      rw [HE.out]
      unfold encV
      have HIN2 := Lib.hid (HIN.out.on b2 (Nat.le_refl _))
      have KT2 := Lib.hid (below_blk b2 KT.out KT.out.lt)
      have BL2 := Lib.hid (BL.out.trans (b2.mono BL.out.size))
      have HR2 := Lib.hid (HR.out.below BL2.out l0 l1)
      clear b2 HIN KT BL HRW
      go_wp2_with ((with_reducible refine at_load 8 ?_); refine tyTx.wpList_load rfl (.tmp 8) rfl (w.heap.size + 1) 0 rfl a (by simpa using RowC.of_blk KT2.out) ?_)
      refine (id_any a _ HIN2.out HR2.out).mono ?_
      rintro e w3 ⟨rfl, b3⟩
      rw [HID.out]
      unfold idV
      have BL3 := Lib.hid (BL2.out.trans (b3.mono BL2.out.size))
      clear b3 BL2 KT2 HIN2 HR2
      go_wp2_with ((with_reducible refine at_store 12 69 ?_); refine tyKc.wpList_store rfl (.tmp 12) (.tmp 69) rfl rfl w3.heap.size nm rfl rfl 26 _ (Blk.new w3 _ _) rfl ?_; intro w4 o4 b4
                   have BL4 := Lib.hid ((BL3.out.alloc BL3.out.size _).trans (o4.below (by simp; exact BL3.out.size)))
                   clear o4 b4 BL3)
      refine (HD.out _).mono ?_
      rintro e w5 ⟨⟨z, hz, rfl, tl⟩, b5⟩
      have BL5 := Lib.hid ((BL4.out.alloc BL4.out.size _).trans (b5.mono (by simp; have := BL4.out.size; omega)))
      clear b5 hz tl BL4 HD
      go_wp2_with ((with_reducible refine at_store 14 79 ?_); refine tyTx.wpList_store rfl (.tmp 14) (.tmp 79) rfl rfl w5.heap.size z rfl rfl 29 _ (Blk.new w5 _ _) rfl ?_; intro w6 o6 b6
                   have BL6 := Lib.hid ((BL5.out.alloc BL5.out.size _).trans (o6.below (by simp; exact BL5.out.size)))
                   clear o6 b6 BL5)
      refine (xshown_any _).mono ?_
      rintro e w7 ⟨rfl, b7⟩
      have BL7 := Lib.hid (BL6.out.trans (b7.mono BL6.out.size))
      clear b7
      go_wp2
      go_ret
      exact ⟨rfl, BL7.out⟩
set_option maxRecDepth 20000 in
set_option maxHeartbeats 4000000 in
theorem many1_walk (n m q b : Nat) (kd : Int) (k : K32) (hm : (wrap64 (n : Int)).tmod 60 = (m : Nat)) (hm60 : m < 60) (hq : (n : Int).tmod 100 = (q : Nat)) (hq100 : q < 100) (hb : b = 41 + q) (hkd : kd.tmod 4 = 1) (w : World) (hR : Roots w) :
    Calls Tryd.prog 4 #[.int .u8 n, .int .u8 kd, .agg (encK k).toArray] w fun e w' => e = .returned (.bool true) ∧ Below w.heap.size w w' := by
  have l0 := hR.lt0
  have l1 := hR.lt1
  have HR := Lib.hid hR
  have HQ := Lib.hid (And.intro hq hq100)
  have HB := Lib.hid hb
  clear hR hq hq100 hb
  go_enter Tryd.func4, Tryd.ntmps4
  go_wp2_with (first
    | ((with_reducible refine at_build 19 ?_); refine wpList_built rfl 29 #[] rfl aZ.cells.toArray (by kernel_rfl) ?_)
    | ((with_reducible refine at_store 8 19 ?_); refine tyTx.wpList_store rfl (.tmp 8) (.tmp 19) rfl rfl (w.heap.size + 1) aZ rfl rfl 29 _ (blk_new _ _ (by simp)) rfl ?_; intro w1 o1 b1
       have ST0 := Lib.hid (show MaS w k ({ aZ with T := { noTx with outs := [] }, Ao := none, co := 0 } : TxA) w1 from ⟨(((Below.refl w.heap.size w).alloc (Nat.le_refl _) _).alloc (by simp) _).trans (o1.below (by simp)), by rw [o1.size]; simp, o1.blk ((Blk.new w _ _).alloc _) (by simp), b1⟩)
       clear o1 b1))
  go_loopw [9] (fun i wr => ∃ (j : Nat) (lst : List (IntV .i64 × K32)) (A : Option Addr) (c : Nat), j ≤ m ∧ i = .int .i64 (j : Nat) ∧ Hid (lst.length = j) ∧ Hid (wr.ownsRow (w.heap.size + 2) 41 33 (.slice A lst.length c) lst.length (cellsOf (encIK .i64) lst)) ∧ Hid (MaS w k ({ aZ with T := { noTx with outs := lst }, Ao := A, co := c } : TxA) wr)) (fun i _ => m - (intOf i).toNat)
  case atStart => exact ⟨0, [], none, 0, by omega, rfl, Lib.hid rfl, Lib.hid (World.ownsRow_nil _ _ _ _), ST0⟩
  case round =>
    clear ST0
    obtain ⟨j, lst, A, c, hj, rfl, HJ, OV, ST⟩ := hrel
    by_cases hlt : j < m
    · have cell := TxA.c2 (RowC.of_blk ST.out.k3)
      go_wp2_with (first
        | ((with_reducible refine at_load 5 ?_); refine tyKy.wpList_load rfl (.tmp 5) rfl w.heap.size 0 rfl k (by simpa [encK] using RowC.of_blk ST.out.k5) ?_)
        | ((with_reducible refine at_build 41 ?_); refine wpList_built rfl 41 #[(1, .tmp 40)] rfl ((encIK .i64) (toI64 0, k)).toArray ((congrArg (Tryd.prog.built 41) (show _ = [(1, Value.agg (encK k).toArray)] by kernel_rfl)).trans (built_K2 _ rfl k)) ?_)
        | ((with_reducible refine at_buildSlice 42 ?_); refine tyOut.wpList_build rfl zsOut 1 _ rfl [(toI64 0, k)] rfl (by omega) (by omega) (by kernel_rfl) ?_)
        | ((with_reducible refine at_appendg 43 39 42 ?_); refine tyOut.wpList_append1 rfl zcOut 40 zbOut (by omega) (.tmp 39) (.tmp 42) rfl (w.heap.size + 2) _ lst rfl (OV.out.alloc _) _ 1 (toI64 0, k) rfl (Blk.new _ _ _) (by rw [HJ.out]; omega) (by have := ST.out.size; simp; omega) ?_; intro v4 w4 p4 g4
           obtain ⟨L2, hL2⟩ : ∃ L2, lst ++ [(toI64 0, k)] = L2 := ⟨_, rfl⟩
           rw [hL2] at p4
           have HL2 := Lib.hid hL2
           clear hL2
           obtain ⟨A4, c4, rfl⟩ := own_shape p4
           have OW := Lib.hid p4
           have ST' := Lib.hid (ST.out.step (((Below.refl _ _).alloc ST.out.size _).trans (xown_grown (OV.out.alloc _) g4 (by have := ST.out.size; simp; omega))))
           clear p4 g4 OV cell
           clear ST; have ST := ST'; clear ST')
        | ((with_reducible refine at_store 44 43 ?_); refine wpList_store_cell rfl 24 (.tmp 44) (.tmp 43) rfl rfl (w.heap.size + 1) 2 (.slice A4 L2.length c4) rfl rfl rfl 29 _ ST.out.k3 (by rw [tyTx.arr]; omega) (by kernel_rfl) ?_; intro w5 ox bx; rw [TxA.set_outs] at bx
           have OV := Lib.hid (xown_only OW.out ox ST.out.k3 (by decide))
           have ST' := Lib.hid (ST.out.set (a' := ({ aZ with T := { noTx with outs := L2 }, Ao := A4, co := c4 } : TxA)) ox bx)
           clear ox bx OW
           clear ST; have ST := ST'; clear ST'))
      have e1 : L2.length = j + 1 := by rw [← HL2.out, List.length_append, HJ.out]; rfl
      go_roundw
      case rel => exact ⟨j + 1, L2, A4, c4, by omega, by go_num, Lib.hid e1, OV, ST⟩
      case measure => simp [intOf]; omega
    · have hjm : j = m := by omega
      subst hjm
      obtain ⟨a, ha⟩ : ∃ a : TxA, ({ aZ with T := { noTx with outs := lst }, Ao := A, co := c } : TxA) = a := ⟨_, rfl⟩
      have HIN := Lib.hid (show a.In wr wr.heap.size by rw [← ha]; exact ⟨RowIn.nil (Nat.zero_le _), row_own (encIK_len _) OV.out, RowIn.nil (Nat.zero_le _), RowIn.nil (Nat.zero_le _)⟩)
      have HF := encF_many a.T j (by rw [← ha]; rfl) (by rw [← ha]; have := HJ.out; simp [noTx]; omega)
      rw [ha] at ST
      clear ha OV HJ
      have HRW := Lib.hid (HR.out.below ST.out.below l0 l1)
      have W1 : 1 < wr.heap.size := by have := ST.out.size; omega
      have hb8 : IntKind.u8.wrap (41 + (q : Int)) = (b : Int) := by have h1 := HQ.out.2; have h2 := HB.out; rw [IntKind.wrap_u8]; omega
      have hb8' : (41 + (q : Int)) % 256 = (b : Int) := by have h1 := HQ.out.2; have h2 := HB.out; omega
      have hbb : b < 256 := by have h1 := HQ.out.2; have h2 := HB.out; omega
      have hq : (n : Int).tmod 100 = (q : Nat) := HQ.out.1
      obtain ⟨y, hy⟩ : ∃ y : UInt8, y.toNat = b := ⟨UInt8.ofNat b, by simp; omega⟩
      have hconv : ∀ W : World, (convert 44 9 (.slice (some ⟨W.heap.size, 0, none⟩) 1 1)).run Tryd.prog (W.alloc (.cells #[.int .u8 (b : Int)] 5)) = .ok (.string ⟨#[y]⟩) (W.alloc (.cells #[.int .u8 (b : Int)] 5)) := fun W => by
        rw [← hy]
        exact conv_blk (l := [y]) (m := 1) (Blk.new W 5 (bytesA [y])) rfl
      have hadd : ∀ V, (Op.stringOp .add ⟨#[0, 0, 0, 0]⟩ ⟨#[y]⟩).run Tryd.prog V = .ok (.string ⟨#[0, 0, 0, 0, y]⟩) V := fun V => run_string_add_lists V [0, 0, 0, 0] [y] (by simp) (by simp)
      have HD := Lib.hid (show ∀ w, Calls Tryd.prog 16 #[.string ⟨#[0, 0, 0, 0, y]⟩] w (EndD w (noTx, 51)) from fun w => by
        have h1 := dec_r [0, 0, 0, 0, y] (by simp) w
        rw [show decTx [0, 0, 0, 0, y] = (noTx, 51) by unfold decTx; rw [txR_many y [] (by have := HB.out; omega) (by have h1 := HQ.out.2; have h2 := HB.out; omega)]] at h1
        exact h1)
      have KT := Lib.hid ST.out.k3
      have BL := Lib.hid ST.out.below
      obtain ⟨nm, er, he, hi, hd1, hd2, h51, h0⟩ : ∃ (nm : K32) (er : Int), (∃ s, encF a.T = (s, er)) ∧ idF a.T = (nm, er) ∧ True ∧ True ∧ (er == 51) = decide ((40 : Int) < (j : Int)) ∧ (er == 0) = decide ((j : Int) ≤ 40) := by
        by_cases h40 : 40 < j
        · obtain ⟨h1, h2⟩ := HF.1 h40
          exact ⟨_, 51, ⟨_, h1⟩, h2, trivial, trivial, by simp; omega, by simp; omega⟩
        · obtain ⟨h1, h2⟩ := HF.2 h40
          exact ⟨(idF a.T).1, 0, ⟨_, h1⟩, by rw [← h2], trivial, trivial, by simp; omega, by simp; omega⟩
      obtain ⟨s, he⟩ := he
      have HE := Lib.hid he
      have HID := Lib.hid hi
      clear hd1 hd2 HF hy he hi ST HQ HB
      go_wp2_with ((with_reducible refine at_load 8 ?_); refine tyTx.wpList_load rfl (.tmp 8) rfl (w.heap.size + 1) 0 rfl a (by simpa using RowC.of_blk KT.out) ?_)
      refine (encA_any a _ HIN.out).mono ?_
      rintro e w2 ⟨rfl, b2⟩
      rw [HE.out]
      unfold encV
      have HIN2 := Lib.hid (HIN.out.on b2 (Nat.le_refl _))
      have KT2 := Lib.hid (below_blk b2 KT.out KT.out.lt)
      have BL2 := Lib.hid (BL.out.trans (b2.mono BL.out.size))
      have HR2 := Lib.hid (HR.out.below BL2.out l0 l1)
      clear b2 HIN KT BL HRW
      go_wp2_with ((with_reducible refine at_load 8 ?_); refine tyTx.wpList_load rfl (.tmp 8) rfl (w.heap.size + 1) 0 rfl a (by simpa using RowC.of_blk KT2.out) ?_)
      refine (id_any a _ HIN2.out HR2.out).mono ?_
      rintro e w3 ⟨rfl, b3⟩
      rw [HID.out]
      unfold idV
      have BL3 := Lib.hid (BL2.out.trans (b3.mono BL2.out.size))
      clear b3 BL2 KT2 HIN2 HR2
      go_wp2_with ((with_reducible refine at_store 12 69 ?_); refine tyKc.wpList_store rfl (.tmp 12) (.tmp 69) rfl rfl w3.heap.size nm rfl rfl 26 _ (Blk.new w3 _ _) rfl ?_; intro w4 o4 b4
                   have BL4 := Lib.hid ((BL3.out.alloc BL3.out.size _).trans (o4.below (by simp; exact BL3.out.size)))
                   clear o4 b4 BL3)
      refine (HD.out _).mono ?_
      rintro e w5 ⟨⟨z, hz, rfl, tl⟩, b5⟩
      have BL5 := Lib.hid ((BL4.out.alloc BL4.out.size _).trans (b5.mono (by simp; have := BL4.out.size; omega)))
      clear b5 hz tl BL4 HD
      go_wp2_with ((with_reducible refine at_store 14 79 ?_); refine tyTx.wpList_store rfl (.tmp 14) (.tmp 79) rfl rfl w5.heap.size z rfl rfl 29 _ (Blk.new w5 _ _) rfl ?_; intro w6 o6 b6
                   have BL6 := Lib.hid ((BL5.out.alloc BL5.out.size _).trans (o6.below (by simp; exact BL5.out.size)))
                   clear o6 b6 BL5)
      refine (xshown_any _).mono ?_
      rintro e w7 ⟨rfl, b7⟩
      have BL7 := Lib.hid (BL6.out.trans (b7.mono BL6.out.size))
      clear b7
      go_wp2
      go_ret
      exact ⟨rfl, BL7.out⟩
set_option maxRecDepth 20000 in
set_option maxHeartbeats 4000000 in
theorem many2_walk (n m q b : Nat) (kd : Int) (k : K32) (hm : (wrap64 (n : Int)).tmod 60 = (m : Nat)) (hm60 : m < 60) (hq : (n : Int).tmod 100 = (q : Nat)) (hq100 : q < 100) (hb : b = 41 + q) (hkd : kd.tmod 4 = 2) (w : World) (hR : Roots w) :
    Calls Tryd.prog 4 #[.int .u8 n, .int .u8 kd, .agg (encK k).toArray] w fun e w' => e = .returned (.bool true) ∧ Below w.heap.size w w' := by
  have l0 := hR.lt0
  have l1 := hR.lt1
  have HR := Lib.hid hR
  have HQ := Lib.hid (And.intro hq hq100)
  have HB := Lib.hid hb
  clear hR hq hq100 hb
  go_enter Tryd.func4, Tryd.ntmps4
  go_wp2_with (first
    | ((with_reducible refine at_build 19 ?_); refine wpList_built rfl 29 #[] rfl aZ.cells.toArray (by kernel_rfl) ?_)
    | ((with_reducible refine at_store 8 19 ?_); refine tyTx.wpList_store rfl (.tmp 8) (.tmp 19) rfl rfl (w.heap.size + 1) aZ rfl rfl 29 _ (blk_new _ _ (by simp)) rfl ?_; intro w1 o1 b1
       have ST0 := Lib.hid (show MaS w k ({ aZ with T := { noTx with nulls := [] }, An := none, cn := 0 } : TxA) w1 from ⟨(((Below.refl w.heap.size w).alloc (Nat.le_refl _) _).alloc (by simp) _).trans (o1.below (by simp)), by rw [o1.size]; simp, o1.blk ((Blk.new w _ _).alloc _) (by simp), b1⟩)
       clear o1 b1))
  go_loopw [9] (fun i wr => ∃ (j : Nat) (lst : List (K32)) (A : Option Addr) (c : Nat), j ≤ m ∧ i = .int .i64 (j : Nat) ∧ Hid (lst.length = j) ∧ Hid (wr.ownsRow (w.heap.size + 2) 26 32 (.slice A lst.length c) lst.length (cellsOf encK lst)) ∧ Hid (MaS w k ({ aZ with T := { noTx with nulls := lst }, An := A, cn := c } : TxA) wr)) (fun i _ => m - (intOf i).toNat)
  case atStart => exact ⟨0, [], none, 0, by omega, rfl, Lib.hid rfl, Lib.hid (World.ownsRow_nil _ _ _ _), ST0⟩
  case round =>
    clear ST0
    obtain ⟨j, lst, A, c, hj, rfl, HJ, OV, ST⟩ := hrel
    by_cases hlt : j < m
    · have cell := TxA.c4 (RowC.of_blk ST.out.k3)
      go_wp2_with (first
        | ((with_reducible refine at_load 5 ?_); refine tyKy.wpList_load rfl (.tmp 5) rfl w.heap.size 0 rfl k (by simpa [encK] using RowC.of_blk ST.out.k5) ?_)
        | ((with_reducible refine at_buildSlice 50 ?_); refine tyKy.wpList_build rfl zsKy 1 _ rfl [k] rfl (by omega) (by omega) (by kernel_rfl) ?_)
        | ((with_reducible refine at_appendg 51 48 50 ?_); refine tyKy.wpList_append1 rfl zcKy 32 zbKy (by omega) (.tmp 48) (.tmp 50) rfl (w.heap.size + 2) _ lst rfl (OV.out.alloc _) _ 1 k rfl (Blk.new _ _ _) (by rw [HJ.out]; omega) (by have := ST.out.size; simp; omega) ?_; intro v4 w4 p4 g4
           obtain ⟨L2, hL2⟩ : ∃ L2, lst ++ [k] = L2 := ⟨_, rfl⟩
           rw [hL2] at p4
           have HL2 := Lib.hid hL2
           clear hL2
           obtain ⟨A4, c4, rfl⟩ := own_shape p4
           have OW := Lib.hid p4
           have ST' := Lib.hid (ST.out.step (((Below.refl _ _).alloc ST.out.size _).trans (xown_grown (OV.out.alloc _) g4 (by have := ST.out.size; simp; omega))))
           clear p4 g4 OV cell
           clear ST; have ST := ST'; clear ST')
        | ((with_reducible refine at_store 52 51 ?_); refine wpList_store_cell rfl 27 (.tmp 52) (.tmp 51) rfl rfl (w.heap.size + 1) 35 (.slice A4 L2.length c4) rfl rfl rfl 29 _ ST.out.k3 (by rw [tyTx.arr]; omega) (by kernel_rfl) ?_; intro w5 ox bx; rw [TxA.set_nulls] at bx
           have OV := Lib.hid (xown_only OW.out ox ST.out.k3 (by decide))
           have ST' := Lib.hid (ST.out.set (a' := ({ aZ with T := { noTx with nulls := L2 }, An := A4, cn := c4 } : TxA)) ox bx)
           clear ox bx OW
           clear ST; have ST := ST'; clear ST'))
      have e1 : L2.length = j + 1 := by rw [← HL2.out, List.length_append, HJ.out]; rfl
      go_roundw
      case rel => exact ⟨j + 1, L2, A4, c4, by omega, by go_num, Lib.hid e1, OV, ST⟩
      case measure => simp [intOf]; omega
    · have hjm : j = m := by omega
      subst hjm
      obtain ⟨a, ha⟩ : ∃ a : TxA, ({ aZ with T := { noTx with nulls := lst }, An := A, cn := c } : TxA) = a := ⟨_, rfl⟩
      have HIN := Lib.hid (show a.In wr wr.heap.size by rw [← ha]; exact ⟨RowIn.nil (Nat.zero_le _), RowIn.nil (Nat.zero_le _), row_own (encK_len) OV.out, RowIn.nil (Nat.zero_le _)⟩)
      have HF := encF_many a.T j (by rw [← ha]; rfl) (by rw [← ha]; have := HJ.out; simp [noTx]; omega)
      rw [ha] at ST
      clear ha OV HJ
      have HRW := Lib.hid (HR.out.below ST.out.below l0 l1)
      have W1 : 1 < wr.heap.size := by have := ST.out.size; omega
      have hb8 : IntKind.u8.wrap (41 + (q : Int)) = (b : Int) := by have h1 := HQ.out.2; have h2 := HB.out; rw [IntKind.wrap_u8]; omega
      have hb8' : (41 + (q : Int)) % 256 = (b : Int) := by have h1 := HQ.out.2; have h2 := HB.out; omega
      have hbb : b < 256 := by have h1 := HQ.out.2; have h2 := HB.out; omega
      have hq : (n : Int).tmod 100 = (q : Nat) := HQ.out.1
      obtain ⟨y, hy⟩ : ∃ y : UInt8, y.toNat = b := ⟨UInt8.ofNat b, by simp; omega⟩
      have hconv : ∀ W : World, (convert 44 9 (.slice (some ⟨W.heap.size, 0, none⟩) 1 1)).run Tryd.prog (W.alloc (.cells #[.int .u8 (b : Int)] 5)) = .ok (.string ⟨#[y]⟩) (W.alloc (.cells #[.int .u8 (b : Int)] 5)) := fun W => by
        rw [← hy]
        exact conv_blk (l := [y]) (m := 1) (Blk.new W 5 (bytesA [y])) rfl
      have hadd : ∀ V, (Op.stringOp .add ⟨#[0, 0, 0, 0]⟩ ⟨#[y]⟩).run Tryd.prog V = .ok (.string ⟨#[0, 0, 0, 0, y]⟩) V := fun V => run_string_add_lists V [0, 0, 0, 0] [y] (by simp) (by simp)
      have HD := Lib.hid (show ∀ w, Calls Tryd.prog 16 #[.string ⟨#[0, 0, 0, 0, y]⟩] w (EndD w (noTx, 51)) from fun w => by
        have h1 := dec_r [0, 0, 0, 0, y] (by simp) w
        rw [show decTx [0, 0, 0, 0, y] = (noTx, 51) by unfold decTx; rw [txR_many y [] (by have := HB.out; omega) (by have h1 := HQ.out.2; have h2 := HB.out; omega)]] at h1
        exact h1)
      have KT := Lib.hid ST.out.k3
      have BL := Lib.hid ST.out.below
      obtain ⟨nm, er, he, hi, hd1, hd2, h51, h0⟩ : ∃ (nm : K32) (er : Int), (∃ s, encF a.T = (s, er)) ∧ idF a.T = (nm, er) ∧ True ∧ True ∧ (er == 51) = decide ((40 : Int) < (j : Int)) ∧ (er == 0) = decide ((j : Int) ≤ 40) := by
        by_cases h40 : 40 < j
        · obtain ⟨h1, h2⟩ := HF.1 h40
          exact ⟨_, 51, ⟨_, h1⟩, h2, trivial, trivial, by simp; omega, by simp; omega⟩
        · obtain ⟨h1, h2⟩ := HF.2 h40
          exact ⟨(idF a.T).1, 0, ⟨_, h1⟩, by rw [← h2], trivial, trivial, by simp; omega, by simp; omega⟩
      obtain ⟨s, he⟩ := he
      have HE := Lib.hid he
      have HID := Lib.hid hi
      clear hd1 hd2 HF hy he hi ST HQ HB
      go_wp2_with ((with_reducible refine at_load 8 ?_); refine tyTx.wpList_load rfl (.tmp 8) rfl (w.heap.size + 1) 0 rfl a (by simpa using RowC.of_blk KT.out) ?_)
      refine (encA_any a _ HIN.out).mono ?_
      rintro e w2 ⟨rfl, b2⟩
      rw [HE.out]
      unfold encV
      have HIN2 := Lib.hid (HIN.out.on b2 (Nat.le_refl _))
      have KT2 := Lib.hid (below_blk b2 KT.out KT.out.lt)
      have BL2 := Lib.hid (BL.out.trans (b2.mono BL.out.size))
      have HR2 := Lib.hid (HR.out.below BL2.out l0 l1)
      clear b2 HIN KT BL HRW
      go_wp2_with ((with_reducible refine at_load 8 ?_); refine tyTx.wpList_load rfl (.tmp 8) rfl (w.heap.size + 1) 0 rfl a (by simpa using RowC.of_blk KT2.out) ?_)
      refine (id_any a _ HIN2.out HR2.out).mono ?_
      rintro e w3 ⟨rfl, b3⟩
      rw [HID.out]
      unfold idV
      have BL3 := Lib.hid (BL2.out.trans (b3.mono BL2.out.size))
      clear b3 BL2 KT2 HIN2 HR2
      go_wp2_with ((with_reducible refine at_store 12 69 ?_); refine tyKc.wpList_store rfl (.tmp 12) (.tmp 69) rfl rfl w3.heap.size nm rfl rfl 26 _ (Blk.new w3 _ _) rfl ?_; intro w4 o4 b4
                   have BL4 := Lib.hid ((BL3.out.alloc BL3.out.size _).trans (o4.below (by simp; exact BL3.out.size)))
                   clear o4 b4 BL3)
      refine (HD.out _).mono ?_
      rintro e w5 ⟨⟨z, hz, rfl, tl⟩, b5⟩
      have BL5 := Lib.hid ((BL4.out.alloc BL4.out.size _).trans (b5.mono (by simp; have := BL4.out.size; omega)))
      clear b5 hz tl BL4 HD
      go_wp2_with ((with_reducible refine at_store 14 79 ?_); refine tyTx.wpList_store rfl (.tmp 14) (.tmp 79) rfl rfl w5.heap.size z rfl rfl 29 _ (Blk.new w5 _ _) rfl ?_; intro w6 o6 b6
                   have BL6 := Lib.hid ((BL5.out.alloc BL5.out.size _).trans (o6.below (by simp; exact BL5.out.size)))
                   clear o6 b6 BL5)
      refine (xshown_any _).mono ?_
      rintro e w7 ⟨rfl, b7⟩
      have BL7 := Lib.hid (BL6.out.trans (b7.mono BL6.out.size))
      clear b7
      go_wp2
      go_ret
      exact ⟨rfl, BL7.out⟩
set_option maxRecDepth 20000 in
set_option maxHeartbeats 4000000 in
theorem many3_walk (n m q b : Nat) (kd : Int) (k : K32) (hm : (wrap64 (n : Int)).tmod 60 = (m : Nat)) (hm60 : m < 60) (hq : (n : Int).tmod 100 = (q : Nat)) (hq100 : q < 100) (hb : b = 41 + q) (hkd : kd.tmod 4 = 3) (w : World) (hR : Roots w) :
    Calls Tryd.prog 4 #[.int .u8 n, .int .u8 kd, .agg (encK k).toArray] w fun e w' => e = .returned (.bool true) ∧ Below w.heap.size w w' := by
  have l0 := hR.lt0
  have l1 := hR.lt1
  have HR := Lib.hid hR
  have HQ := Lib.hid (And.intro hq hq100)
  have HB := Lib.hid hb
  clear hR hq hq100 hb
  go_enter Tryd.func4, Tryd.ntmps4
  go_wp2_with (first
    | ((with_reducible refine at_build 19 ?_); refine wpList_built rfl 29 #[] rfl aZ.cells.toArray (by kernel_rfl) ?_)
    | ((with_reducible refine at_store 8 19 ?_); refine tyTx.wpList_store rfl (.tmp 8) (.tmp 19) rfl rfl (w.heap.size + 1) aZ rfl rfl 29 _ (blk_new _ _ (by simp)) rfl ?_; intro w1 o1 b1
       have ST0 := Lib.hid (show MaS w k ({ aZ with T := { noTx with notes := [] }, At := none, ct := 0 } : TxA) w1 from ⟨(((Below.refl w.heap.size w).alloc (Nat.le_refl _) _).alloc (by simp) _).trans (o1.below (by simp)), by rw [o1.size]; simp, o1.blk ((Blk.new w _ _).alloc _) (by simp), b1⟩)
       clear o1 b1))
  go_loopw [9] (fun i wr => ∃ (j : Nat) (lst : List (K32)) (A : Option Addr) (c : Nat), j ≤ m ∧ i = .int .i64 (j : Nat) ∧ Hid (lst.length = j) ∧ Hid (wr.ownsRow (w.heap.size + 2) 26 32 (.slice A lst.length c) lst.length (cellsOf encK lst)) ∧ Hid (MaS w k ({ aZ with T := { noTx with notes := lst }, At := A, ct := c } : TxA) wr)) (fun i _ => m - (intOf i).toNat)
  case atStart => exact ⟨0, [], none, 0, by omega, rfl, Lib.hid rfl, Lib.hid (World.ownsRow_nil _ _ _ _), ST0⟩
  case round =>
    clear ST0
    obtain ⟨j, lst, A, c, hj, rfl, HJ, OV, ST⟩ := hrel
    by_cases hlt : j < m
    · have cell := TxA.c5 (RowC.of_blk ST.out.k3)
      go_wp2_with (first
        | ((with_reducible refine at_load 5 ?_); refine tyKy.wpList_load rfl (.tmp 5) rfl w.heap.size 0 rfl k (by simpa [encK] using RowC.of_blk ST.out.k5) ?_)
        | ((with_reducible refine at_buildSlice 58 ?_); refine tyKy.wpList_build rfl zsKy 1 _ rfl [k] rfl (by omega) (by omega) (by kernel_rfl) ?_)
        | ((with_reducible refine at_appendg 59 56 58 ?_); refine tyKy.wpList_append1 rfl zcKy 32 zbKy (by omega) (.tmp 56) (.tmp 58) rfl (w.heap.size + 2) _ lst rfl (OV.out.alloc _) _ 1 k rfl (Blk.new _ _ _) (by rw [HJ.out]; omega) (by have := ST.out.size; simp; omega) ?_; intro v4 w4 p4 g4
           obtain ⟨L2, hL2⟩ : ∃ L2, lst ++ [k] = L2 := ⟨_, rfl⟩
           rw [hL2] at p4
           have HL2 := Lib.hid hL2
           clear hL2
           obtain ⟨A4, c4, rfl⟩ := own_shape p4
           have OW := Lib.hid p4
           have ST' := Lib.hid (ST.out.step (((Below.refl _ _).alloc ST.out.size _).trans (xown_grown (OV.out.alloc _) g4 (by have := ST.out.size; simp; omega))))
           clear p4 g4 OV cell
           clear ST; have ST := ST'; clear ST')
        | ((with_reducible refine at_store 60 59 ?_); refine wpList_store_cell rfl 27 (.tmp 60) (.tmp 59) rfl rfl (w.heap.size + 1) 36 (.slice A4 L2.length c4) rfl rfl rfl 29 _ ST.out.k3 (by rw [tyTx.arr]; omega) (by kernel_rfl) ?_; intro w5 ox bx; rw [TxA.set_notes] at bx
           have OV := Lib.hid (xown_only OW.out ox ST.out.k3 (by decide))
           have ST' := Lib.hid (ST.out.set (a' := ({ aZ with T := { noTx with notes := L2 }, At := A4, ct := c4 } : TxA)) ox bx)
           clear ox bx OW
           clear ST; have ST := ST'; clear ST'))
      have e1 : L2.length = j + 1 := by rw [← HL2.out, List.length_append, HJ.out]; rfl
      go_roundw
      case rel => exact ⟨j + 1, L2, A4, c4, by omega, by go_num, Lib.hid e1, OV, ST⟩
      case measure => simp [intOf]; omega
    · have hjm : j = m := by omega
      subst hjm
      obtain ⟨a, ha⟩ : ∃ a : TxA, ({ aZ with T := { noTx with notes := lst }, At := A, ct := c } : TxA) = a := ⟨_, rfl⟩
      have HIN := Lib.hid (show a.In wr wr.heap.size by rw [← ha]; exact ⟨RowIn.nil (Nat.zero_le _), RowIn.nil (Nat.zero_le _), RowIn.nil (Nat.zero_le _), row_own (encK_len) OV.out⟩)
      have HF := encF_many a.T j (by rw [← ha]; rfl) (by rw [← ha]; have := HJ.out; simp [noTx]; omega)
      rw [ha] at ST
      clear ha OV HJ
      have HRW := Lib.hid (HR.out.below ST.out.below l0 l1)
      have W1 : 1 < wr.heap.size := by have := ST.out.size; omega
      have hb8 : IntKind.u8.wrap (41 + (q : Int)) = (b : Int) := by have h1 := HQ.out.2; have h2 := HB.out; rw [IntKind.wrap_u8]; omega
      have hb8' : (41 + (q : Int)) % 256 = (b : Int) := by have h1 := HQ.out.2; have h2 := HB.out; omega
      have hbb : b < 256 := by have h1 := HQ.out.2; have h2 := HB.out; omega
      have hq : (n : Int).tmod 100 = (q : Nat) := HQ.out.1
      obtain ⟨y, hy⟩ : ∃ y : UInt8, y.toNat = b := ⟨UInt8.ofNat b, by simp; omega⟩
      have hconv : ∀ W : World, (convert 44 9 (.slice (some ⟨W.heap.size, 0, none⟩) 1 1)).run Tryd.prog (W.alloc (.cells #[.int .u8 (b : Int)] 5)) = .ok (.string ⟨#[y]⟩) (W.alloc (.cells #[.int .u8 (b : Int)] 5)) := fun W => by
        rw [← hy]
        exact conv_blk (l := [y]) (m := 1) (Blk.new W 5 (bytesA [y])) rfl
      have hadd : ∀ V, (Op.stringOp .add ⟨#[0, 0, 0, 0]⟩ ⟨#[y]⟩).run Tryd.prog V = .ok (.string ⟨#[0, 0, 0, 0, y]⟩) V := fun V => run_string_add_lists V [0, 0, 0, 0] [y] (by simp) (by simp)
      have HD := Lib.hid (show ∀ w, Calls Tryd.prog 16 #[.string ⟨#[0, 0, 0, 0, y]⟩] w (EndD w (noTx, 51)) from fun w => by
        have h1 := dec_r [0, 0, 0, 0, y] (by simp) w
        rw [show decTx [0, 0, 0, 0, y] = (noTx, 51) by unfold decTx; rw [txR_many y [] (by have := HB.out; omega) (by have h1 := HQ.out.2; have h2 := HB.out; omega)]] at h1
        exact h1)
      have KT := Lib.hid ST.out.k3
      have BL := Lib.hid ST.out.below
      obtain ⟨nm, er, he, hi, hd1, hd2, h51, h0⟩ : ∃ (nm : K32) (er : Int), (∃ s, encF a.T = (s, er)) ∧ idF a.T = (nm, er) ∧ True ∧ True ∧ (er == 51) = decide ((40 : Int) < (j : Int)) ∧ (er == 0) = decide ((j : Int) ≤ 40) := by
        by_cases h40 : 40 < j
        · obtain ⟨h1, h2⟩ := HF.1 h40
          exact ⟨_, 51, ⟨_, h1⟩, h2, trivial, trivial, by simp; omega, by simp; omega⟩
        · obtain ⟨h1, h2⟩ := HF.2 h40
          exact ⟨(idF a.T).1, 0, ⟨_, h1⟩, by rw [← h2], trivial, trivial, by simp; omega, by simp; omega⟩
      obtain ⟨s, he⟩ := he
      have HE := Lib.hid he
      have HID := Lib.hid hi
      clear hd1 hd2 HF hy he hi ST HQ HB
      go_wp2_with ((with_reducible refine at_load 8 ?_); refine tyTx.wpList_load rfl (.tmp 8) rfl (w.heap.size + 1) 0 rfl a (by simpa using RowC.of_blk KT.out) ?_)
      refine (encA_any a _ HIN.out).mono ?_
      rintro e w2 ⟨rfl, b2⟩
      rw [HE.out]
      unfold encV
      have HIN2 := Lib.hid (HIN.out.on b2 (Nat.le_refl _))
      have KT2 := Lib.hid (below_blk b2 KT.out KT.out.lt)
      have BL2 := Lib.hid (BL.out.trans (b2.mono BL.out.size))
      have HR2 := Lib.hid (HR.out.below BL2.out l0 l1)
      clear b2 HIN KT BL HRW
      go_wp2_with ((with_reducible refine at_load 8 ?_); refine tyTx.wpList_load rfl (.tmp 8) rfl (w.heap.size + 1) 0 rfl a (by simpa using RowC.of_blk KT2.out) ?_)
      refine (id_any a _ HIN2.out HR2.out).mono ?_
      rintro e w3 ⟨rfl, b3⟩
      rw [HID.out]
      unfold idV
      have BL3 := Lib.hid (BL2.out.trans (b3.mono BL2.out.size))
      clear b3 BL2 KT2 HIN2 HR2
      go_wp2_with ((with_reducible refine at_store 12 69 ?_); refine tyKc.wpList_store rfl (.tmp 12) (.tmp 69) rfl rfl w3.heap.size nm rfl rfl 26 _ (Blk.new w3 _ _) rfl ?_; intro w4 o4 b4
                   have BL4 := Lib.hid ((BL3.out.alloc BL3.out.size _).trans (o4.below (by simp; exact BL3.out.size)))
                   clear o4 b4 BL3)
      refine (HD.out _).mono ?_
      rintro e w5 ⟨⟨z, hz, rfl, tl⟩, b5⟩
      have BL5 := Lib.hid ((BL4.out.alloc BL4.out.size _).trans (b5.mono (by simp; have := BL4.out.size; omega)))
      clear b5 hz tl BL4 HD
      go_wp2_with ((with_reducible refine at_store 14 79 ?_); refine tyTx.wpList_store rfl (.tmp 14) (.tmp 79) rfl rfl w5.heap.size z rfl rfl 29 _ (Blk.new w5 _ _) rfl ?_; intro w6 o6 b6
                   have BL6 := Lib.hid ((BL5.out.alloc BL5.out.size _).trans (o6.below (by simp; exact BL5.out.size)))
                   clear o6 b6 BL5)
      refine (xshown_any _).mono ?_
      rintro e w7 ⟨rfl, b7⟩
      have BL7 := Lib.hid (BL6.out.trans (b7.mono BL6.out.size))
      clear b7
      go_wp2
      go_ret
      exact ⟨rfl, BL7.out⟩
theorem tmod_nat (n m : Nat) : (n : Int).tmod (m : Int) = ((n % m : Nat) : Int) := by rw [Int.ofNat_tmod]
theorem many_walk (n kd : Int) (s : List UInt8) (hn : (Lit.int .u8 n).wf = true) (hk : (Lit.int .u8 kd).wf = true) (hs : s.length = 32) (w : World) (hR : Roots w) :
    Calls Tryd.prog 4 #[.int .u8 n, .int .u8 kd, .agg (bytesA s)] w fun e w' => e = .returned (.bool true) ∧ Below w.heap.size w w' := by
  have h1 : 0 ≤ n ∧ n ≤ 255 := by simpa [Lit.wf, IntKind.min, IntKind.max, IntKind.signed, IntKind.bits] using hn
  have h2 : 0 ≤ kd ∧ kd ≤ 255 := by simpa [Lit.wf, IntKind.min, IntKind.max, IntKind.signed, IntKind.bits] using hk
  obtain ⟨m, rfl⟩ : ∃ m : Nat, n = m := ⟨n.toNat, by omega⟩
  obtain ⟨x, rfl⟩ : ∃ x : Nat, kd = x := ⟨kd.toNat, by omega⟩
  have e1 : (wrap64 (m : Int)).tmod 60 = ((m % 60 : Nat) : Int) := by rw [show wrap64 (m : Int) = m by unfold wrap64; omega]; exact tmod_nat m 60
  have e2 : (m : Int).tmod 100 = ((m % 100 : Nat) : Int) := tmod_nat m 100
  have e3 : (x : Int).tmod 4 = ((x % 4 : Nat) : Int) := tmod_nat x 4
  have hx : x % 4 = 0 ∨ x % 4 = 1 ∨ x % 4 = 2 ∨ x % 4 = 3 := by omega
  rw [← encK_arr ⟨s, hs⟩]
  rcases hx with q | q | q | q
  · exact many0_walk m (m % 60) (m % 100) _ x ⟨s, hs⟩ e1 (by omega) e2 (by omega) rfl (by rw [e3, q]; rfl) w hR
  · exact many1_walk m (m % 60) (m % 100) _ x ⟨s, hs⟩ e1 (by omega) e2 (by omega) rfl (by rw [e3, q]; rfl) w hR
  · exact many2_walk m (m % 60) (m % 100) _ x ⟨s, hs⟩ e1 (by omega) e2 (by omega) rfl (by rw [e3, q]; rfl) w hR
  · exact many3_walk m (m % 60) (m % 100) _ x ⟨s, hs⟩ e1 (by omega) e2 (by omega) rfl (by rw [e3, q]; rfl) w hR
end Go.Proofs.YtgcopgnkfokphaaDoor
