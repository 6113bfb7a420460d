/- BlockParts: a block's notes and signatures are those of its transactions, one behind the other: the statement's walk. Written by genLP.py. -/
import Derived.Test.YthpnmmilioonhaaLBkSizes
import Derived.Test.YthpnmmilioonhaaBkK
import Derived.Test.YthpnmmilioonhaaBkJ
import Derived.Deep.Cut
import Derived.Deep.CutRange
import Derived.Deep.DeepCutAuto
namespace Go.Proofs.Ythpnmmilioonhaa
open Go.RowKit
theorem built_P (l : List TxA) (A : Option Addr) (c : Nat) : Try.prog.built 28 [(3, .slice A l.length c)] = some (⟨zeroKey, zeroKey, toU32 0, l, A, c⟩ : BkA).cells.toArray := by kernel_rfl
def headP (a : BkA) (i : Nat) : BkA := ⟨zeroKey, zeroKey, toU32 0, a.txs.take i, a.A, a.c⟩
def tailP (a : BkA) (i : Nat) : BkA := ⟨zeroKey, zeroKey, toU32 0, a.txs.drop i, cutA 38 a.c i a.A, a.c - i⟩
theorem built_PH (a : BkA) (i : Nat) (h : i ≤ a.txs.length) : Try.prog.built 28 [(3, .slice a.A i a.c)] = some (headP a i).cells.toArray := by
  have := built_P (a.txs.take i) a.A a.c
  rwa [List.length_take, Nat.min_eq_left h] at this
theorem built_PT (a : BkA) (i : Nat) : Try.prog.built 28 [(3, .slice (cutA 38 a.c i a.A) (a.txs.length - i) (a.c - i))] = some (tailP a i).cells.toArray := by
  have := built_P (a.txs.drop i) (cutA 38 a.c i a.A) (a.c - i)
  rwa [List.length_drop] at this
theorem headP_in {a : BkA} {i : Nat} {w : World} (h : a.In w w.heap.size) : (headP a i).In w w.heap.size := ⟨h.row.take TxA.len i, fun t ht => h.each t (List.mem_of_mem_take ht)⟩
theorem tailP_in {a : BkA} {i : Nat} {w : World} (h : a.In w w.heap.size) (hi : i ≤ a.txs.length) : (tailP a i).In w w.heap.size := ⟨h.row.drop TxA.len i hi, fun t ht => h.each t (List.mem_of_mem_drop ht)⟩
theorem light_part {a b : BkA} (h : heavyB a.B = false) (hs : b.txs.length ≤ a.txs.length) (hm : ∀ t ∈ b.txs, t ∈ a.txs) : heavyB b.B = false := by
  unfold heavyB at h ⊢
  rw [Bool.or_eq_false_iff, decide_eq_false_iff_not, List.any_eq_false] at h ⊢
  refine ⟨?_, fun T hT => ?_⟩
  · have h1 := h.1
    simp only [BkA.B, List.length_map] at h1 ⊢
    omega
  · obtain ⟨t, ht, rfl⟩ := List.mem_map.1 hT
    exact h.2 _ (List.mem_map.2 ⟨t, hm t ht, rfl⟩)
theorem light_head {a : BkA} {i : Nat} (h : heavyB a.B = false) : heavyB (headP a i).B = false := light_part h (by show (a.txs.take i).length ≤ _; rw [List.length_take]; omega) (fun _ => List.mem_of_mem_take)
theorem light_tail {a : BkA} {i : Nat} (h : heavyB a.B = false) : heavyB (tailP a i).B = false := light_part h (by show (a.txs.drop i).length ≤ _; rw [List.length_drop]; omega) (fun _ => List.mem_of_mem_drop)
theorem notes_parts (a : BkA) (i : Nat) : notesF (headP a i).B.txs ++ notesF (tailP a i).B.txs = notesF a.B.txs := by
  show notesF ((a.txs.take i).map TxA.T) ++ notesF ((a.txs.drop i).map TxA.T) = notesF (a.txs.map TxA.T)
  unfold notesF
  rw [← List.flatMap_append, ← List.map_append, List.take_append_drop]
theorem sigs_parts (a : BkA) (i : Nat) : sigsF (headP a i).B.txs + sigsF (tailP a i).B.txs = sigsF a.B.txs := by
  show sigsF ((a.txs.take i).map TxA.T) + sigsF ((a.txs.drop i).map TxA.T) = sigsF (a.txs.map TxA.T)
  unfold sigsF
  rw [← List.sum_append, ← List.map_append, ← List.map_append, List.take_append_drop]
theorem notes_few {a : BkA} (h : heavyB a.B = false) : (notesF a.B.txs).length ≤ 2400 := by
  have h1 := lightB_no h
  have := notesF_len a.B.txs (fun T hT => (h1.2 T hT).2.2.2)
  omega
theorem sigs_few {a : BkA} (h : heavyB a.B = false) : sigsF a.B.txs ≤ 2400 := by
  have h1 := lightB_no h
  have := sigsF_le a.B.txs (fun T hT => (h1.2 T hT).1)
  omega
theorem step_unguard {P : Program} {ops : Array Oper} {o : Oper} {a : Act} {w : World} {K : Act → World → Prop} {Q : Exit → Act → World → Prop} {E : Prop} (hw : Region.wanted o (yielded ops a.tmps) = true)
    (h : if Region.wanted { o with guard := none } (yielded ops a.tmps) = true then Oper.wp P { o with guard := none } a w K Q else E) : if Region.wanted o (yielded ops a.tmps) = true then Oper.wp P o a w K Q else E := by
  rw [if_pos (by simp [Region.wanted])] at h
  rw [if_pos hw]
  exact h
/-- the law's block of one transaction of one point of nothing -/
def txP (A : Option Addr) : TxA := ⟨⟨toU32 0, [(zeroKey, toU32 0)], [], zeroKey, [], [], toI64 0⟩, A, 1, none, 0, none, 0, none, 0⟩
def onePB (A B : Option Addr) : BkA := ⟨zeroKey, zeroKey, toU32 0, [txP A], B, 1⟩
theorem onePB_sigs (A B : Option Addr) : sigsF (onePB A B).B.txs = 0 := show sigsF [(txP none).T] = 0 by decide +kernel
theorem onePB_light (A B : Option Addr) : heavyB (onePB A B).B = false := show heavyB ⟨zeroKey, zeroKey, toU32 0, [(txP none).T]⟩ = false by decide +kernel
theorem onePB_in {g h : Nat} {w : World} (hp : Blk w g 49 (cellsOf (encKI .u32) [(zeroKey, toU32 0)]).toArray) (ht : Blk w h 44 (cellsOf TxA.cells [txP (some ⟨g, 0, none⟩)]).toArray) : (onePB (some ⟨g, 0, none⟩) (some ⟨h, 0, none⟩)).In w w.heap.size :=
  ⟨⟨Nat.le_refl _, show 1 ≤ maxLen by decide, fun _ => ⟨h, 0, rfl, ht.lt, RowC.of_blk ht⟩⟩, fun t hm => by
    obtain rfl : t = txP (some ⟨g, 0, none⟩) := List.mem_singleton.1 hm
    exact ⟨⟨Nat.le_refl _, show 1 ≤ maxLen by decide, fun _ => ⟨g, 0, rfl, hp.lt, RowC.of_blk hp⟩⟩, RowIn.nil (Nat.zero_le _), RowIn.nil (Nat.zero_le _), RowIn.nil (Nat.zero_le _)⟩⟩
/-- what lies there: the block, its two parts -/
structure BP (w0 w : World) (a : BkA) (i g6 g7 : Nat) : Prop where
  h : BH w0 w a
  k6 : Blk w g6 28 (headP a i).cells.toArray
  k7 : Blk w g7 28 (tailP a i).cells.toArray
theorem BP.call {w0 w w' : World} {a : BkA} {i g6 g7 : Nat} (h : BP w0 w a i g6 g7) (b : Below w.heap.size w w') : BP w0 w' a i g6 g7 := ⟨h.h.call b, below_blk b h.k6 h.k6.lt, below_blk b h.k7 h.k7.lt⟩
set_option maxRecDepth 20000 in
set_option maxHeartbeats 16000000 in
theorem bkparts_walk (HE : EncBOk) (HN : NotesBOk) (HG : SigsBOk) (a : BkA) (n : Int) (w : World) (h : a.In w w.heap.size) (hn : (Lit.int .u8 n).wf = true) :
    Calls Try.prog 6 #[.agg a.cells.toArray, .int .u8 n] w fun e w' => e = .returned (.bool true) ∧ Below w.heap.size w w' := by
  unfold NotesBOk at HN
  unfold SigsBOk at HG
  have hcu : 0 ≤ n ∧ n ≤ 255 := by simpa [Lit.wf, IntKind.min, IntKind.max, IntKind.signed, IntKind.bits] using hn
  obtain ⟨n, rfl⟩ : ∃ m : Nat, n = m := ⟨n.toNat, by omega⟩
  clear hn
  have HX := Lib.hid (BH.new h)
  clear h
  obtain ⟨hv, hhv⟩ : ∃ b, heavyB a.B = b := ⟨_, rfl⟩
  have hH := Lib.hid hhv
  clear hhv
  by_cases hbad : hv = true
  · subst hbad
    clear hcu
    go_enter Try.func6, Try.ntmps6
    go_wp2_with ((with_reducible refine at_load 2 ?_); refine tyBk.wpList_load rfl (.tmp 2) rfl w.heap.size 0 rfl a (by simpa using RowC.of_blk HX.out.k) ?_)
    refine (heavyB_any a _ HX.out.inn).mono ?_
    rintro e w1 ⟨rfl, b1⟩
    rw [hH.out]
    have H1 := Lib.hid (HX.out.call b1)
    clear b1 HX
    go_wp2_with fail
    refine (bshown_any HE _).mono ?_
    rintro e w2 ⟨rfl, b2⟩
    go_wp2
    go_ret
    exact ⟨rfl, (H1.out.call b2).below⟩
  obtain rfl : hv = false := by cases hv <;> simp_all
  clear hbad
  have h40 : a.txs.length ≤ 40 := by have := (lightB_no hH.out).1; rwa [show a.B.txs.length = a.txs.length from List.length_map _] at this
  obtain ⟨i, hi⟩ : ∃ i : Nat, n % (a.txs.length + 1) = i := ⟨_, rfl⟩
  have hil : i ≤ a.txs.length := by have := Nat.mod_lt n (show 0 < a.txs.length + 1 by omega); omega
  have hmod : (n : Int) % ((a.txs.length : Int) + 1) = i := by rw [← hi]; exact (Int.natCast_emod n (a.txs.length + 1)).symm
  clear hi
  go_enter Try.func6, Try.ntmps6
  go_wp2_with ((with_reducible refine at_load 2 ?_); refine tyBk.wpList_load rfl (.tmp 2) rfl w.heap.size 0 rfl a (by simpa using RowC.of_blk HX.out.k) ?_)
  refine (heavyB_any a _ HX.out.inn).mono ?_
  rintro e w1 ⟨rfl, bq⟩
  rw [hH.out]
  have HX' := Lib.hid (HX.out.call bq)
  clear bq
  clear HX; have HX := HX'; clear HX'
  go_wp2_with fail
  refine (bshown_any HE _).mono ?_
  rintro e w2 ⟨rfl, bq⟩
  have HX' := Lib.hid (HX.out.call bq)
  clear bq
  clear HX; have HX := HX'; clear HX'
  have cc := BkA.c3 (RowC.of_blk HX.out.k)
  have hca : a.txs.length ≤ a.c := HX.out.inn.row.le
  have hsl1 : ∀ W, (Instr.slice 26 (.slice a.A a.txs.length a.c) none (some (.int .i64 (i : Int))) none).run Try.prog W = .ok (.slice a.A i a.c) W := fun W => tyTxR.slice_to W a.A a.txs.length a.c i (by omega)
  have hsl2 : ∀ W, (Instr.slice 26 (.slice a.A a.txs.length a.c) (some (.int .i64 (i : Int))) none none).run Try.prog W = .ok (.slice (cutA 38 a.c i a.A) (a.txs.length - i) (a.c - i)) W := fun W => tyTxR.slice_from W a.A a.txs.length a.c i hil
  have hw1 : IntKind.i64.wrap ((a.txs.length : Int) + 1) = (a.txs.length : Int) + 1 := by rw [IntKind.wrap_i64]; omega
  have HIL := Lib.hid hil
  go_wp2_with (first
    | ((with_reducible refine at_build 27 ?_); refine wpList_built rfl 28 #[(3, .tmp 26)] rfl (headP a i).cells.toArray ((congrArg (Try.prog.built 28) (show _ = [(3, Value.slice a.A i a.c)] by kernel_rfl)).trans (built_PH a i HIL.out)) ?_)
    | ((with_reducible refine at_store 6 27 ?_); refine tyBk.wpList_store rfl (.tmp 6) (.tmp 27) rfl rfl w2.heap.size (headP a i) rfl rfl 28 _ (Blk.new w2 _ _) rfl ?_; intro w3 o b
       have K6 := Lib.hid b
       have H3 := Lib.hid (HX.out.call (((Below.refl w2.heap.size w2).alloc (Nat.le_refl _) _).trans (o.below (by simp))))
       clear b o
       have cc3 := BkA.c3 (RowC.of_blk H3.out.k))
    | ((with_reducible refine at_build 32 ?_); refine wpList_built rfl 28 #[(3, .tmp 31)] rfl (tailP a i).cells.toArray ((congrArg (Try.prog.built 28) (show _ = [(3, Value.slice (cutA 38 a.c i a.A) (a.txs.length - i) (a.c - i))] by kernel_rfl)).trans (built_PT a i)) ?_)
    | ((with_reducible refine at_store 7 32 ?_); refine tyBk.wpList_store rfl (.tmp 7) (.tmp 32) rfl rfl w3.heap.size (tailP a i) rfl rfl 28 _ (Blk.new w3 _ _) rfl ?_; intro w4 o b
       have BW := ((Below.refl w3.heap.size w3).alloc (Nat.le_refl _) _).trans (o.below (by simp))
       have HP := Lib.hid (show BP w w4 a i w2.heap.size w3.heap.size from ⟨H3.out.call BW, below_blk BW K6.out K6.out.lt, b⟩)
       clear b o BW K6 H3 cc3))
  clear hsl1 hsl2 hw1 hmod hcu cc HX hca
  obtain ⟨nx, hnx⟩ : ∃ l, notesF (headP a i).B.txs = l := ⟨_, rfl⟩
  obtain ⟨ny, hny⟩ : ∃ l, notesF (tailP a i).B.txs = l := ⟨_, rfl⟩
  have hnn := notes_parts a i
  have hfew := notes_few hH.out
  have C2 := HN (headP a i)
  have C5 := HN (tailP a i)
  rw [hnx] at hnn C2
  rw [hny] at hnn C5
  rw [← hnn, List.length_append] at hfew
  have C2 := Lib.hid (fun W hW => C2 W hW (light_head hH.out))
  have C5 := Lib.hid (fun W hW => C5 W hW (light_tail hH.out))
  have HNN := Lib.hid hnn
  have HFW := Lib.hid hfew
  clear hnx hny hnn hfew
  obtain ⟨g6, hg6⟩ : ∃ g, w2.heap.size = g := ⟨_, rfl⟩
  obtain ⟨g7, hg7⟩ : ∃ g, w3.heap.size = g := ⟨_, rfl⟩
  rw [hg6, hg7] at HP
  rw [hg6, hg7]
  clear hg6 hg7
  go_cut [8] from 33 (fun vx wc => ∃ (m8 : Nat) (A8 : Option Addr) (c8 : Nat), vx = .slice A8 m8 c8 ∧ Hid (m8 = (nx ++ ny).length ∧ RowIn encK 32 wc wc.heap.size A8 c8 (nx ++ ny)) ∧ Hid (BP w wc a i g6 g7))
  case first =>
    refine wp_region_held_drew (S := From w4) (by kernel_rfl) (Below.refl _ _).drew ?_
    intro hS
    generalize w4.drew = wd at hS ⊢
    refine wpAnyH_take (i := 1) (v := .agg (headP a i).cells.toArray) rfl (by kernel_rfl) (by kernel_rfl) (by kernel_rfl) (fun _ _ _ h => h) (tyBk.yieldsIf_load (by rfl) (.tmp 6) rfl g6 0 rfl (headP a i) (fun _ hW => by simpa using RowC.of_blk (HP.out.call hW.below).k6)) hS ?_
    simp only [Act.put, List.getElem_toArray, List.getElem_cons_zero, List.getElem_cons_succ, List.setIfInBounds_toArray, List.set_cons_succ, List.set_cons_zero]
    refine wpAnyH_take (i := 4) (v := .agg (tailP a i).cells.toArray) rfl (by kernel_rfl) (by kernel_rfl) (by kernel_rfl) (fun _ _ _ h => h) (tyBk.yieldsIf_load (by rfl) (.tmp 7) rfl g7 0 rfl (tailP a i) (fun _ hW => by simpa using RowC.of_blk (HP.out.call hW.below).k7)) hS ?_
    simp only [Act.put, List.getElem_toArray, List.getElem_cons_zero, List.getElem_cons_succ, List.setIfInBounds_toArray, List.set_cons_succ, List.set_cons_zero]
    refine wpAnyH_ready (rs := [0, 2]) (by kernel_rfl) (by simp) ?_
    refine AllReadyH.cons rfl (fun Kq hK => ?_) (AllReadyH.cons rfl (fun Kq hK => ?_) AllReadyH.nil)
    · go_simp
      have e0 : World.ownsRow _ w4.heap.size 24 32 (.slice (some ⟨wd.heap.size, 0, none⟩) 0 0) ([] : List K32).length (cellsOf encK []) := xown_nil (Blk.new wd 24 #[]) hS.below.size
      refine hK.out _ _ (hS.call ((Below.refl wd.heap.size wd).alloc (Nat.le_refl _) _)) (fun hS => ?_)
      clear hK Kq
      refine wpAnyH_ready (rs := [2]) (by kernel_rfl) (by simp) ?_
      refine AllReadyH.cons rfl (fun Kq hK => ?_) AllReadyH.nil
      go_simp
      with_reducible refine (C2.out _ (headP_in (HP.out.call hS.below).h.inn)).mono ?_
      rintro e x2 ⟨⟨A1, c1, rfl, r2⟩, b2⟩
      have e0 := xown_from e0 b2
      have N1 := row_own encK_len r2
      refine hK.out _ _ (hS.call b2) (fun hS => ?_)
      clear r2 b2
      clear hK Kq
      refine wpAnyH_ready (rs := [3]) (by kernel_rfl) (by simp) ?_
      refine AllReadyH.cons rfl (fun Kq hK => ?_) AllReadyH.nil
      refine tyKy.step_append rfl zcKy 32 zbKy (by omega) (.tmp 33) (.tmp 35) rfl w4.heap.size _ [] rfl e0 _ A1 c1 nx rfl N1 (by have := HFW.out; simp; omega) hS.below.size ?_
      intro v3 w6 p3 q3
      have hS3 : From w4 w6 := Below.trans hS.below (xown_grown e0 q3 hS.below.size)
      refine hK.out _ _ hS3 (fun hS => ?_)
      clear hK Kq hS3 q3 e0 N1
      simp only [Act.put, List.getElem_toArray, List.getElem_cons_zero, List.getElem_cons_succ, List.setIfInBounds_toArray, List.set_cons_succ, List.set_cons_zero]
      refine wpAnyH_ready (rs := [5]) (by kernel_rfl) (by simp) ?_
      refine AllReadyH.cons rfl (fun Kq hK => ?_) AllReadyH.nil
      go_simp
      with_reducible refine (C5.out _ (tailP_in (HP.out.call hS.below).h.inn HIL.out)).mono ?_
      rintro e x5 ⟨⟨A2, c2, rfl, r5⟩, b5⟩
      have p3 := xown_from p3 b5
      have N2 := row_own encK_len r5
      refine hK.out _ _ (hS.call b5) (fun hS => ?_)
      clear hK Kq r5 b5
      refine wpAnyH_ready (rs := [6]) (by kernel_rfl) (by simp) ?_
      refine AllReadyH.cons rfl (fun Kq hK => ?_) AllReadyH.nil
      refine tyKy.step_append rfl zcKy 32 zbKy (by omega) (.tmp 36) (.tmp 38) rfl w4.heap.size _ ([] ++ nx) rfl p3 _ A2 c2 ny rfl N2 (by have := HFW.out; simp; omega) hS.below.size ?_
      intro v9 w9 p9 q9
      have hS3 : From w4 w9 := Below.trans hS.below (xown_grown p3 q9 hS.below.size)
      refine hK.out _ _ hS3 (fun hS => ?_)
      clear hK Kq hS3 q9 p3 N2
      simp only [Act.put, List.getElem_toArray, List.getElem_cons_zero, List.getElem_cons_succ, List.setIfInBounds_toArray, List.set_cons_succ, List.set_cons_zero]
      refine wpAnyH_ready (rs := [7]) (by kernel_rfl) (by simp) ?_
      refine AllReadyH.cons rfl (fun Kq hK => ?_) AllReadyH.nil
      go_simp
      refine hK.out _ _ hS (fun _ => ?_)
      clear hK Kq
      refine wpAnyH_done (by kernel_rfl) ?_ _
      rw [List.nil_append] at p9
      obtain ⟨A9, c9, rfl, r9⟩ := RowIn.of_own encK_len p9
      clear p9
      go_wp2_with fail
      go_meet
      exact ⟨_, A9, c9, rfl, Lib.hid ⟨rfl, r9⟩, Lib.hid (HP.out.call hS.below)⟩
    · go_simp
      with_reducible refine (C2.out _ (headP_in (HP.out.call hS.below).h.inn)).mono ?_
      rintro e x2 ⟨⟨A1, c1, rfl, r2⟩, b2⟩
      have N1 := row_own encK_len r2
      refine hK.out _ _ (hS.call b2) (fun hS => ?_)
      clear hK Kq r2 b2
      refine wpAnyH_ready (rs := [0]) (by kernel_rfl) (by simp) ?_
      refine AllReadyH.cons rfl (fun Kq hK => ?_) AllReadyH.nil
      go_simp
      have e0 : World.ownsRow _ w4.heap.size 24 32 (.slice (some ⟨x2.heap.size, 0, none⟩) 0 0) ([] : List K32).length (cellsOf encK []) := xown_nil (Blk.new x2 24 #[]) hS.below.size
      have bN := (Below.refl x2.heap.size x2).alloc (Nat.le_refl _) (.cells #[] 24)
      have N1 := (N1.below bN).more bN.size
      refine hK.out _ _ (hS.call bN) (fun hS => ?_)
      clear bN
      clear hK Kq
      refine wpAnyH_ready (rs := [3]) (by kernel_rfl) (by simp) ?_
      refine AllReadyH.cons rfl (fun Kq hK => ?_) AllReadyH.nil
      refine tyKy.step_append rfl zcKy 32 zbKy (by omega) (.tmp 33) (.tmp 35) rfl w4.heap.size _ [] rfl e0 _ A1 c1 nx rfl N1 (by have := HFW.out; simp; omega) hS.below.size ?_
      intro v3 w6 p3 q3
      have hS3 : From w4 w6 := Below.trans hS.below (xown_grown e0 q3 hS.below.size)
      refine hK.out _ _ hS3 (fun hS => ?_)
      clear hK Kq hS3 q3 e0 N1
      simp only [Act.put, List.getElem_toArray, List.getElem_cons_zero, List.getElem_cons_succ, List.setIfInBounds_toArray, List.set_cons_succ, List.set_cons_zero]
      refine wpAnyH_ready (rs := [5]) (by kernel_rfl) (by simp) ?_
      refine AllReadyH.cons rfl (fun Kq hK => ?_) AllReadyH.nil
      go_simp
      with_reducible refine (C5.out _ (tailP_in (HP.out.call hS.below).h.inn HIL.out)).mono ?_
      rintro e x5 ⟨⟨A2, c2, rfl, r5⟩, b5⟩
      have p3 := xown_from p3 b5
      have N2 := row_own encK_len r5
      refine hK.out _ _ (hS.call b5) (fun hS => ?_)
      clear hK Kq r5 b5
      refine wpAnyH_ready (rs := [6]) (by kernel_rfl) (by simp) ?_
      refine AllReadyH.cons rfl (fun Kq hK => ?_) AllReadyH.nil
      refine tyKy.step_append rfl zcKy 32 zbKy (by omega) (.tmp 36) (.tmp 38) rfl w4.heap.size _ ([] ++ nx) rfl p3 _ A2 c2 ny rfl N2 (by have := HFW.out; simp; omega) hS.below.size ?_
      intro v9 w9 p9 q9
      have hS3 : From w4 w9 := Below.trans hS.below (xown_grown p3 q9 hS.below.size)
      refine hK.out _ _ hS3 (fun hS => ?_)
      clear hK Kq hS3 q9 p3 N2
      simp only [Act.put, List.getElem_toArray, List.getElem_cons_zero, List.getElem_cons_succ, List.setIfInBounds_toArray, List.set_cons_succ, List.set_cons_zero]
      refine wpAnyH_ready (rs := [7]) (by kernel_rfl) (by simp) ?_
      refine AllReadyH.cons rfl (fun Kq hK => ?_) AllReadyH.nil
      go_simp
      refine hK.out _ _ hS (fun _ => ?_)
      clear hK Kq
      refine wpAnyH_done (by kernel_rfl) ?_ _
      rw [List.nil_append] at p9
      obtain ⟨A9, c9, rfl, r9⟩ := RowIn.of_own encK_len p9
      clear p9
      go_wp2_with fail
      go_meet
      exact ⟨_, A9, c9, rfl, Lib.hid ⟨rfl, r9⟩, Lib.hid (HP.out.call hS.below)⟩
  case rest =>
    obtain ⟨m8, A8, c8, rfl, HR, HP'⟩ := hcut
    clear HP; have HP := HP'; clear HP'
    have hr := HR.out.2
    have hm8 := HR.out.1
    subst hm8
    rw [HNN.out] at hr ⊢
    have C1 := HN a
    obtain ⟨L, hL⟩ : ∃ L, notesF a.B.txs = L := ⟨_, rfl⟩
    rw [hL] at C1 hr ⊢
    have C1 := Lib.hid (fun W hW => C1 W hW hH.out)
    have HR8 := Lib.hid hr
    have hsp := sigs_parts a i
    have hbd := sigs_few hH.out
    have G0 := HG a
    have G1 := HG (headP a i)
    have G2 := HG (tailP a i)
    obtain ⟨sx, hsx⟩ : ∃ l, sigsF (headP a i).B.txs = l := ⟨_, rfl⟩
    obtain ⟨sy, hsy⟩ : ∃ l, sigsF (tailP a i).B.txs = l := ⟨_, rfl⟩
    rw [hsx] at G1 hsp
    rw [hsy] at G2 hsp
    rw [← hsp] at G0 hbd
    rw [Int.natCast_add] at G0
    have G0 := Lib.hid (fun W hW => G0 W hW hH.out)
    have G1 := Lib.hid (fun W hW => G1 W hW (light_head hH.out))
    have G2 := Lib.hid (fun W hW => G2 W hW (light_tail hH.out))
    have hwr : IntKind.i64.wrap ((sx : Int) + (sy : Int)) = (sx : Int) + (sy : Int) := by rw [IntKind.wrap_i64]; omega
    clear hr HR hL hsp hbd hsx hsy C2 C5 HNN HFW
    go_wp2_with fail
    refine wp_region_held_drew (S := From wc) (by kernel_rfl) (Below.refl _ _).drew ?_
    intro hS
    refine wpAnyH_take (i := 0) (v := .agg a.cells.toArray) rfl (by kernel_rfl) (by kernel_rfl) (by kernel_rfl) (fun _ _ _ h => h) (tyBk.yieldsIf_load (by rfl) (.tmp 2) rfl w.heap.size 0 rfl a (fun _ hW => by simpa using RowC.of_blk (HP.out.call hW.below).h.k)) hS ?_
    simp only [Act.put, List.getElem_toArray, List.getElem_cons_zero, List.setIfInBounds_toArray, List.set_cons_succ, List.set_cons_zero]
    refine wpAnyH_take (i := 2) (v := .slice A8 L.length c8) rfl (by kernel_rfl) (by kernel_rfl) (by kernel_rfl) (fun _ _ _ h => h) (Or.inl ⟨by rfl, fun W _ => by go_simp; try with_reducible rfl⟩) hS ?_
    simp only [Act.put, List.getElem_toArray, List.getElem_cons_zero, List.getElem_cons_succ, List.setIfInBounds_toArray, List.set_cons_succ, List.set_cons_zero]
    refine wpAnyH_ready (rs := [1]) (by kernel_rfl) (by simp) ?_
    refine AllReadyH.cons rfl (fun Kq hK => ?_) AllReadyH.nil
    go_simp
    with_reducible refine (C1.out _ (HP.out.call hS.below).h.inn).mono ?_
    rintro e y1 ⟨⟨A1, c1, rfl, r1⟩, b1⟩
    have N1 := row_own encK_len r1
    refine hK.out _ _ (hS.call b1) (fun hS => ?_)
    clear hK Kq r1 b1
    refine wpAnyH_ready (rs := [3]) (by kernel_rfl) (by simp) ?_
    refine AllReadyH.cons rfl (fun Kq hK => ?_) AllReadyH.nil
    go_simp
    with_reducible refine (refSameK_any A1 A8 c1 c8 L L _ N1 ((HR8.out.below hS.below).more hS.below.size)).mono ?_
    rintro e y3 ⟨rfl, b3⟩
    rw [show decide (L = L) = true from decide_eq_true rfl]
    refine hK.out _ _ (hS.call b3) (fun hS => ?_)
    clear hK Kq N1 b3
    refine wpAnyH_take (i := 4) (v := .bool true) rfl (by kernel_rfl) (by kernel_rfl) (by kernel_rfl) (fun _ _ _ h => h) (Or.inl ⟨by rfl, fun W _ => by go_simp; try with_reducible rfl⟩) hS ?_
    simp only [Act.put, List.getElem_toArray, List.getElem_cons_zero, List.getElem_cons_succ, List.setIfInBounds_toArray, List.set_cons_succ, List.set_cons_zero]
    refine wpAnyH_take (i := 5) (v := .agg a.cells.toArray) rfl (by kernel_rfl) (by kernel_rfl) (by kernel_rfl) (fun _ _ _ h => h) (tyBk.yieldsIf_load (by rfl) (.tmp 2) rfl w.heap.size 0 rfl a (fun _ hW => by simpa using RowC.of_blk (HP.out.call hW.below).h.k)) hS ?_
    simp only [Act.put, List.getElem_toArray, List.getElem_cons_zero, List.getElem_cons_succ, List.setIfInBounds_toArray, List.set_cons_succ, List.set_cons_zero]
    refine wpAnyH_take (i := 7) (v := .agg (headP a i).cells.toArray) rfl (by kernel_rfl) (by kernel_rfl) (by kernel_rfl) (fun _ _ _ h => h) (tyBk.yieldsIf_load (by rfl) (.tmp 6) rfl g6 0 rfl (headP a i) (fun _ hW => by simpa using RowC.of_blk (HP.out.call hW.below).k6)) hS ?_
    simp only [Act.put, List.getElem_toArray, List.getElem_cons_zero, List.getElem_cons_succ, List.setIfInBounds_toArray, List.set_cons_succ, List.set_cons_zero]
    refine wpAnyH_take (i := 9) (v := .agg (tailP a i).cells.toArray) rfl (by kernel_rfl) (by kernel_rfl) (by kernel_rfl) (fun _ _ _ h => h) (tyBk.yieldsIf_load (by rfl) (.tmp 7) rfl g7 0 rfl (tailP a i) (fun _ hW => by simpa using RowC.of_blk (HP.out.call hW.below).k7)) hS ?_
    simp only [Act.put, List.getElem_toArray, List.getElem_cons_zero, List.getElem_cons_succ, List.setIfInBounds_toArray, List.set_cons_succ, List.set_cons_zero]
    refine wpAnyH_ready (rs := [6]) (by kernel_rfl) (by simp) ?_
    refine AllReadyH.cons rfl (fun Kq hK => ?_) AllReadyH.nil
    go_simp
    with_reducible refine (G0.out _ (HP.out.call hS.below).h.inn).mono ?_
    rintro e y6 ⟨rfl, b6⟩
    refine hK.out _ _ (hS.call b6) (fun hS => ?_)
    clear hK Kq b6
    refine wpAnyH_ready (rs := [8]) (by kernel_rfl) (by simp) ?_
    refine AllReadyH.cons rfl (fun Kq hK => ?_) AllReadyH.nil
    go_simp
    with_reducible refine (G1.out _ (headP_in (HP.out.call hS.below).h.inn)).mono ?_
    rintro e y8 ⟨rfl, b8⟩
    refine hK.out _ _ (hS.call b8) (fun hS => ?_)
    clear hK Kq b8
    refine wpAnyH_ready (rs := [10]) (by kernel_rfl) (by simp) ?_
    refine AllReadyH.cons rfl (fun Kq hK => ?_) AllReadyH.nil
    go_simp
    with_reducible refine (G2.out _ (tailP_in (HP.out.call hS.below).h.inn HIL.out)).mono ?_
    rintro e y10 ⟨rfl, b10⟩
    refine hK.out _ _ (hS.call b10) (fun hS => ?_)
    clear hK Kq b10
    refine wpAnyH_take (i := 11) (v := .int .i64 ((sx : Int) + (sy : Int))) rfl (by kernel_rfl) (by kernel_rfl) (by kernel_rfl) (fun _ _ _ h => h) (Or.inl ⟨by rfl, fun W _ => by go_simp; try with_reducible rfl⟩) hS ?_
    simp only [Act.put, List.getElem_toArray, List.getElem_cons_zero, List.getElem_cons_succ, List.setIfInBounds_toArray, List.set_cons_succ, List.set_cons_zero]
    refine wpAnyH_take (i := 12) (v := .bool true) rfl (by kernel_rfl) (by kernel_rfl) (by kernel_rfl) (fun _ _ _ h => h) (Or.inl ⟨by rfl, fun W _ => by go_simp; try with_reducible rfl⟩) hS ?_
    simp only [Act.put, List.getElem_toArray, List.getElem_cons_zero, List.getElem_cons_succ, List.setIfInBounds_toArray, List.set_cons_succ, List.set_cons_zero]
    refine wpAnyH_take (i := 13) (v := .bool true) rfl (by kernel_rfl) (by kernel_rfl) (by kernel_rfl) (fun _ _ _ h => h) (Or.inl ⟨by rfl, fun W _ => by go_simp; try with_reducible rfl⟩) hS ?_
    simp only [Act.put, List.getElem_toArray, List.getElem_cons_zero, List.getElem_cons_succ, List.setIfInBounds_toArray, List.set_cons_succ, List.set_cons_zero]
    refine wpAnyH_take (i := 14) (v := .bool true) rfl (by kernel_rfl) (by kernel_rfl) (by kernel_rfl) (fun _ _ _ h => h) (Or.inl ⟨by rfl, fun W _ => by go_simp; try with_reducible rfl⟩) hS ?_
    simp only [Act.put, List.getElem_toArray, List.getElem_cons_zero, List.getElem_cons_succ, List.setIfInBounds_toArray, List.set_cons_succ, List.set_cons_zero]
    refine wpAnyH_take (i := 15) (v := .agg (encKI .u32 (zeroKey, toU32 0)).toArray) rfl (by kernel_rfl) (by kernel_rfl) (by kernel_rfl) (fun _ _ _ h => h) (yieldsIf_build (by rfl) 49 #[] rfl _ (by kernel_rfl)) hS ?_
    simp only [Act.put, List.getElem_toArray, List.getElem_cons_zero, List.getElem_cons_succ, List.setIfInBounds_toArray, List.set_cons_succ, List.set_cons_zero]
    refine wpAnyH_ready (rs := [16]) (by kernel_rfl) (by simp) ?_
    refine AllReadyH.cons rfl (fun Kq hK => ?_) AllReadyH.nil
    refine step_unguard (by rfl) ?_
    refine tyPt.step_build rfl zsPt 1 _ rfl [(zeroKey, toU32 0)] rfl (by omega) (by omega) (by kernel_rfl) ?_
    have fP := Blk.new y10 49 (cellsOf (encKI .u32) [(zeroKey, toU32 0)]).toArray
    refine hK.out _ _ (hS.call ((Below.refl y10.heap.size y10).alloc (Nat.le_refl _) _)) (fun hS => ?_)
    clear hK Kq
    simp only [Act.put, List.getElem_toArray, List.getElem_cons_zero, List.getElem_cons_succ, List.setIfInBounds_toArray, List.set_cons_succ, List.set_cons_zero]
    refine wpAnyH_take (i := 17) (v := .agg (txP (some ⟨y10.heap.size, 0, none⟩)).cells.toArray) rfl (by kernel_rfl) (by kernel_rfl) (by kernel_rfl) (fun _ _ _ h => h) (yieldsIf_build (by rfl) 44 #[(1, .tmp 56)] rfl _ (by kernel_rfl)) hS ?_
    simp only [Act.put, List.getElem_toArray, List.getElem_cons_zero, List.getElem_cons_succ, List.setIfInBounds_toArray, List.set_cons_succ, List.set_cons_zero]
    refine wpAnyH_ready (rs := [18]) (by kernel_rfl) (by simp) ?_
    refine AllReadyH.cons rfl (fun Kq hK => ?_) AllReadyH.nil
    refine step_unguard (by rfl) ?_
    refine tyTxR.step_build rfl zsTx 1 _ rfl [txP (some ⟨y10.heap.size, 0, none⟩)] rfl (by omega) (by omega) (by kernel_rfl) ?_
    have fT := Blk.new (y10.alloc (.cells (cellsOf (encKI .u32) [(zeroKey, toU32 0)]).toArray 49)) 44 (cellsOf TxA.cells [txP (some ⟨y10.heap.size, 0, none⟩)]).toArray
    have fP2 := fP.alloc (.cells (cellsOf TxA.cells [txP (some ⟨y10.heap.size, 0, none⟩)]).toArray 44)
    simp only [World.size_alloc] at fT
    refine hK.out _ _ (hS.call ((Below.refl _ _).alloc (Nat.le_refl _) _)) (fun hS => ?_)
    clear hK Kq fP
    simp only [World.size_alloc]
    simp only [Act.put, List.getElem_toArray, List.getElem_cons_zero, List.getElem_cons_succ, List.setIfInBounds_toArray, List.set_cons_succ, List.set_cons_zero]
    refine wpAnyH_take (i := 19) (v := .agg (onePB (some ⟨y10.heap.size, 0, none⟩) (some ⟨y10.heap.size + 1, 0, none⟩)).cells.toArray) rfl (by kernel_rfl) (by kernel_rfl) (by kernel_rfl) (fun _ _ _ h => h) (yieldsIf_build (by rfl) 28 #[(3, .tmp 58)] rfl _ (by kernel_rfl)) hS ?_
    simp only [Act.put, List.getElem_toArray, List.getElem_cons_zero, List.getElem_cons_succ, List.setIfInBounds_toArray, List.set_cons_succ, List.set_cons_zero]
    refine wpAnyH_ready (rs := [20]) (by kernel_rfl) (by simp) ?_
    refine AllReadyH.cons rfl (fun Kq hK => ?_) AllReadyH.nil
    go_simp
    with_reducible refine (HG _ _ (onePB_in fP2 fT) (onePB_light _ _)).mono ?_
    rintro e y20 ⟨rfl, b20⟩
    rw [onePB_sigs]
    refine hK.out _ _ (hS.call b20) (fun hS => ?_)
    clear hK Kq b20
    refine wpAnyH_take (i := 21) (v := .bool true) rfl (by kernel_rfl) (by kernel_rfl) (by kernel_rfl) (fun _ _ _ h => h) (Or.inl ⟨by rfl, fun W _ => by go_simp; try with_reducible rfl⟩) hS ?_
    simp only [Act.put, List.getElem_toArray, List.getElem_cons_zero, List.getElem_cons_succ, List.setIfInBounds_toArray, List.set_cons_succ, List.set_cons_zero]
    refine wpAnyH_take (i := 22) (v := .bool true) rfl (by kernel_rfl) (by kernel_rfl) (by kernel_rfl) (fun _ _ _ h => h) (Or.inl ⟨by rfl, fun W _ => by go_simp; try with_reducible rfl⟩) hS ?_
    simp only [Act.put, List.getElem_toArray, List.getElem_cons_zero, List.getElem_cons_succ, List.setIfInBounds_toArray, List.set_cons_succ, List.set_cons_zero]
    refine wpAnyH_ready (rs := [23]) (by kernel_rfl) (by simp) ?_
    refine AllReadyH.cons rfl (fun Kq hK => ?_) AllReadyH.nil
    go_simp
    refine hK.out _ _ hS (fun hS => ?_)
    clear hK Kq
    refine wpAnyH_done (by kernel_rfl) ?_ _
    go_wp2_with fail
    go_ret
    exact ⟨rfl, (HP.out.call hS.below).h.below⟩
end Go.Proofs.Ythpnmmilioonhaa
