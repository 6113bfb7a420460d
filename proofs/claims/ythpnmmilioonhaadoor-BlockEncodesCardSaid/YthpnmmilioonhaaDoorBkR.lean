/- The document's Encode, Id, Notes, Sigs, Size, Head of a block. Written by genBR.py. -/
import Derived.Test.YthpnmmilioonhaaDoorBkW
import Derived.Test.YthpnmmilioonhaaDoorBkQ
import Derived.Test.YthpnmmilioonhaaDoorBkS
import Derived.Test.YthpnmmilioonhaaDoorTxAllC
import Derived.Test.YthpnmmilioonhaaDoorTxAllA
import Derived.Test.YthpnmmilioonhaaDoorTxAllB
import Derived.Test.YthpnmmilioonhaaDoorRefAll
namespace Go.Proofs.YthpnmmilioonhaaDoor
open Go.RowKit
section
variable {α : Type} {enc : α → List Value} {k : Nat} {P : Program} {t e : TypeId} (T : RowTy P t e enc k)
include T
/-- a slice that came in put behind an own row -/
theorem RowTy.wpList_appendIn {ops : Array Oper} {rest : List Oper} {o : Oper} {a : Act} {w : World} {Q : Exit → Act → World → Prop} (hgd : o.guard = none) (hz : ((P.info? e).bind (·.zero)).map (·.cells.size) = some k) (bytes : Nat) (hb : (P.info? e).map (·.bytes) = some bytes) (hby : bytes ≤ 100000) (s x : Operand)
    (ho : o.op = .call { callee := .builtin .append, args := #[s, x], argTypes := #[t, t] })
    (base : Nat) (v : Value) (l : List α) (hs : a.eval s = v) (hown : w.ownsRow base e k v l.length (cellsOf enc l))
    (B : Nat) (A : Option Addr) (c : Nat) (m : List α) (hx : a.eval x = .slice A m.length c) (hg : RowIn enc k w B A c m) (hn : l.length + m.length ≤ 1000000) (hbase : base ≤ w.heap.size)
    (h : ∀ v' w', w'.ownsRow base e k v' (l ++ m).length (cellsOf enc (l ++ m)) → w.grownBy w' v.ownBlock → wpList P ops Q rest (a.put o.dst v') w') : wpList P ops Q (o :: rest) a w := by
  have hsz := T.size
  cases hie : P.info? e with
  | none => simp [hie] at hsz
  | some ie =>
    simp only [hie, Option.map_some, Option.some.injEq, Option.bind_some, Option.map_eq_some_iff] at hsz hz hb
    obtain ⟨z, hz1, hz2⟩ := hz
    refine wpList_append_any w hgd s x t ho base e ie z k bytes T.slice hie hz1 hsz hb hz2 T.pos v l.length (cellsOf enc l) hs hown B A m.length c (cellsOf enc m) hx (hg.reads T.len) (cellsOf_all1 T.one _) ?_ ?_ hbase ?_
    · unfold maxLen; omega
    · have : (l.length + m.length) * bytes ≤ 1000000 * 100000 := Nat.mul_le_mul hn hby
      omega
    · intro v' w' h2 h3 _
      exact h v' w' (by rw [List.length_append, cellsOf_append]; exact h2) h3
end
theorem heavyB_no {B : BlockV} (h : heavyB B = false) : B.txs.length ≤ 40 ∧ ∀ T ∈ B.txs, T.ins.length ≤ 60 ∧ T.outs.length ≤ 60 ∧ T.nulls.length ≤ 60 ∧ T.notes.length ≤ 60 := by
  unfold heavyB at h
  rw [Bool.or_eq_false_iff, decide_eq_false_iff_not, List.any_eq_false] at h
  refine ⟨by omega, fun T hT => ?_⟩
  have := h.2 T hT
  unfold heavyF at this
  simp only [decide_eq_true_iff] at this
  omega
theorem take_map_succ {α β : Type} (f : α → β) (l : List α) (j : Nat) (hj : j < l.length) : (l.take (j + 1)).map f = (l.take j).map f ++ [f l[j]] := by
  rw [List.take_succ_eq_append_getElem hj, List.map_append]
  rfl
theorem RowC.cell65 {w : World} {g o : Nat} {t : TxA} (h : RowC w g o t.cells) : w.cell? ⟨g, o + 1, none⟩ = some (.slice t.Ai t.T.ins.length t.ci) := tx_ins h
def encBX (P : List UInt8) (x : Except Int (List UInt8)) : List UInt8 × Int := match x with
  | .ok s => (P ++ s, 0)
  | .error e => ([], e)
theorem txB_six {T : TxV} (h : OkTx T) : (txB T).length ≤ 6000 := by
  have hlen := txB_len T h
  obtain ⟨o1, o2, o3, o4, _⟩ := h
  split at hlen <;> omega
theorem take_mem {α : Type} {l : List α} {j : Nat} {x : α} (h : x ∈ l.take j) : x ∈ l := List.mem_of_mem_take h
set_option maxRecDepth 20000 in
theorem refSizeB_any (a : TxA) (w : World) (h : a.In w w.heap.size) :
    Calls Tryd.prog 17 #[.agg a.cells.toArray] w fun e w' => e = .returned (.int .i64 (sizeF a.T : Nat)) ∧ Below w.heap.size w w' := by
  have KA := Lib.hid (Blk.new w 32 a.cells.toArray)
  have HI := Lib.hid (h.on ((Below.refl w.heap.size w).alloc (Nat.le_refl _) (.cells a.cells.toArray 32)) (Nat.le_refl _))
  have B0 := Lib.hid ((Below.refl w.heap.size w).alloc (Nat.le_refl _) (.cells a.cells.toArray 32))
  unfold sizeF
  obtain ⟨⟨s, e⟩, he⟩ : ∃ q, encF a.T = q := ⟨_, rfl⟩
  have HE := Lib.hid he
  rw [he]
  clear he h
  go_enter Tryd.func17, Tryd.ntmps17
  go_wp2_with ((with_reducible refine at_load 1 ?_); refine tyTx.wpList_load rfl (.tmp 1) rfl w.heap.size 0 rfl a (by simpa using RowC.of_blk KA.out) ?_)
  refine (refEncA_any a _ HI.out).mono ?_
  rintro e w1 ⟨rfl, b1⟩
  rw [HE.out]
  unfold encV
  have B1 := Lib.hid (B0.out.trans (b1.mono B0.out.size))
  clear b1
  go_wp2
  go_ret
  exact ⟨rfl, B1.out⟩
set_option maxRecDepth 20000 in
set_option maxHeartbeats 4000000 in
theorem refSigs_any (a : BkA) (w : World) (h : a.In w w.heap.size) (hv : heavyB a.B = false) :
    Calls Tryd.prog 15 #[.agg a.cells.toArray] w fun e w' => e = .returned (.int .i64 (sigsF a.B.txs : Nat)) ∧ Below w.heap.size w w' := by
  obtain ⟨S, hS⟩ : ∃ S, sigsF a.B.txs = S := ⟨_, rfl⟩
  rw [hS]
  have HS := Lib.hid (show sigsF (a.txs.map TxA.T) = S from hS)
  have hv' := heavyB_no hv
  have h40 : a.txs.length ≤ 40 := by have := hv'.1; rwa [show a.B.txs.length = a.txs.length from List.length_map _] at this
  have HV := Lib.hid (show ∀ t ∈ a.txs, t.T.ins.length ≤ 60 from fun t ht => (hv'.2 t.T (List.mem_map.2 ⟨t, ht, rfl⟩)).1)
  clear hS hv hv'
  have ST := Lib.hid (show HvS w a (w.alloc (.cells a.cells.toArray 27)) from ⟨(Below.refl _ _).alloc (Nat.le_refl _) _, Blk.new _ _ _⟩)
  have IA := Lib.hid h
  clear h
  go_enter Tryd.func15, Tryd.ntmps15
  go_wp2_with fail
  go_loopw [3, 4] (fun s i wr => ∃ (j q : Nat), j ≤ a.txs.length ∧ i = .int .i64 j ∧ s = .int .i64 q ∧ q ≤ 60 * j ∧ Hid (q = sigsF ((a.txs.take j).map TxA.T)) ∧ Hid (HvS w a wr)) (fun _ i _ => a.txs.length - (intOf i).toNat)
  case atStart => exact ⟨0, 0, by omega, rfl, rfl, by omega, Lib.hid rfl, ST⟩
  case round =>
    clear ST
    obtain ⟨j, q, hj, rfl, rfl, hq, hx, ST⟩ := hrel
    by_cases hlt : j < a.txs.length
    · have hj40 : j ≤ 39 := by omega
      obtain ⟨g1, o1, e1, l1, rc1⟩ := (IA.out.row.below ST.out.below).at TxA.len hlt
      obtain ⟨t, ht⟩ : ∃ t, a.txs[j] = t := ⟨_, rfl⟩
      have hmem : t ∈ a.txs := ht ▸ List.getElem_mem hlt
      have hTS := take_map_succ TxA.T a.txs j hlt
      rw [ht] at rc1 hTS
      have HTS := Lib.hid hTS
      have MI := Lib.hid (show t.In wr wr.heap.size from TxA.In.on (IA.out.each t hmem) ST.out.below (Nat.le_refl _))
      have RC := Lib.hid rc1
      have cc : wr.cell? ⟨w.heap.size, 65, none⟩ = some (.slice (some ⟨g1, o1, none⟩) a.txs.length a.c) := by rw [← e1]; exact BkA.c3 (RowC.of_blk ST.out.ka)
      have h60 := HV.out t hmem
      have hsg : sigF t.T = if coinF t.T then 0 else t.T.ins.length := rfl
      clear ht hmem rc1 e1 hTS
      obtain ⟨cb, hcb⟩ : ∃ cb, coinF t.T = cb := ⟨_, rfl⟩
      rw [hcb] at hsg
      have HC := Lib.hid hcb
      have HSG := Lib.hid hsg
      clear hcb hsg
      go_wp2_with ((with_reducible refine at_load 15 ?_); refine tyTxR.wpList_load rfl (.tmp 15) rfl g1 (o1 + j * 38) rfl t RC.out ?_)
      refine (refCoin_any t _ MI.out).mono ?_
      rintro e w1 ⟨rfl, b1⟩
      rw [HC.out]
      have ST' := Lib.hid (ST.out.call b1)
      have RC1 := Lib.hid (RC.out.below b1 (by have := ST.out.below.size; omega))
      have cc1 := RowC.cell65 RC1.out
      have ck : w1.cell? ⟨w.heap.size, 65, none⟩ = some (.slice (some ⟨g1, o1, none⟩) a.txs.length a.c) := below_cell b1 cc ST.out.ka.lt
      clear b1 cc
      clear ST; have ST := ST'; clear ST'
      cases cb with
      | true =>
        go_wp2_with fail
        go_roundw
        case rel => exact ⟨j + 1, q, by omega, by go_num, rfl, by omega, Lib.hid (by rw [HTS.out, sigsF_snoc, ← hx.out, HSG.out]; rfl), ST⟩
        case measure => simp [intOf]; omega
      | false =>
        go_wp2_with fail
        go_roundw
        case rel => exact ⟨j + 1, q + t.T.ins.length, by omega, by go_num, by go_num, by omega, Lib.hid (by rw [HTS.out, sigsF_snoc, ← hx.out, HSG.out]; rfl), ST⟩
        case measure => simp [intOf]; omega
    · have hje : j = a.txs.length := by omega
      have HE := Lib.hid (show q = S by rw [hx.out, hje, List.take_length, HS.out])
      have cc := BkA.c3 (RowC.of_blk ST.out.ka)
      go_wp2
      go_ret
      exact ⟨by rw [HE.out]; rfl, ST.out.below⟩
set_option maxRecDepth 20000 in
set_option maxHeartbeats 4000000 in
theorem refNotes_any (a : BkA) (w : World) (h : a.In w w.heap.size) (hv : heavyB a.B = false) :
    Calls Tryd.prog 13 #[.agg a.cells.toArray] w fun e w' => (∃ A c, e = .returned (.slice A (notesF a.B.txs).length c) ∧ w'.ownsRow w.heap.size 23 32 (.slice A (notesF a.B.txs).length c) (notesF a.B.txs).length (cellsOf encK (notesF a.B.txs))) ∧ Below w.heap.size w w' := by
  obtain ⟨S, hS⟩ : ∃ S, notesF a.B.txs = S := ⟨_, rfl⟩
  rw [hS]
  have HS := Lib.hid (show notesF (a.txs.map TxA.T) = S from hS)
  have hv' := heavyB_no hv
  have h40 : a.txs.length ≤ 40 := by have := hv'.1; rwa [show a.B.txs.length = a.txs.length from List.length_map _] at this
  have HV := Lib.hid (show ∀ t ∈ a.txs, t.T.notes.length ≤ 60 from fun t ht => (hv'.2 t.T (List.mem_map.2 ⟨t, ht, rfl⟩)).2.2.2)
  clear hS hv hv'
  have ST := Lib.hid (show HvS w a (w.alloc (.cells a.cells.toArray 27)) from ⟨(Below.refl _ _).alloc (Nat.le_refl _) _, Blk.new _ _ _⟩)
  have IA := Lib.hid h
  clear h
  have OV0 := Lib.hid (xown_nil (base := w.heap.size + 1) (e := 23) (k := 32) (blk_new (w := w.alloc (.cells a.cells.toArray 27)) 23 #[] (g := w.heap.size + 1) (by simp)) (Nat.le_refl _))
  have ST0 := Lib.hid (ST.out.call ((Below.refl _ _).alloc (Nat.le_refl _) (.cells #[] 23)))
  have SZ0 := Lib.hid (show w.heap.size + 1 ≤ ((w.alloc (.cells a.cells.toArray 27)).alloc (.cells #[] 23)).heap.size by simp)
  clear ST
  go_enter Tryd.func13, Tryd.ntmps13
  go_wp2_with fail
  go_loopw [3, 4] (fun s i wr => ∃ (j : Nat) (lst : List K32), j ≤ a.txs.length ∧ i = .int .i64 j ∧ Hid (lst = notesF ((a.txs.take j).map TxA.T)) ∧ Hid (wr.ownsRow (w.heap.size + 1) 23 32 s lst.length (cellsOf encK lst)) ∧ Hid (HvS w a wr) ∧ Hid (w.heap.size + 1 ≤ wr.heap.size)) (fun _ i _ => a.txs.length - (intOf i).toNat)
  case atStart => exact ⟨0, [], by omega, rfl, Lib.hid rfl, Lib.hid OV0.out, ST0, SZ0⟩
  case round =>
    clear ST0 OV0 SZ0
    obtain ⟨j, lst, hj, rfl, hx, OV, ST, SZ⟩ := hrel
    by_cases hlt : j < a.txs.length
    · have hj40 : j ≤ 39 := by omega
      obtain ⟨g1, o1, e1, l1, rc1⟩ := (IA.out.row.below ST.out.below).at TxA.len hlt
      obtain ⟨t, ht⟩ : ∃ t, a.txs[j] = t := ⟨_, rfl⟩
      have hmem : t ∈ a.txs := ht ▸ List.getElem_mem hlt
      have hTS := take_map_succ TxA.T a.txs j hlt
      rw [ht] at rc1 hTS
      have HTS := Lib.hid hTS
      have MI := Lib.hid (show t.In wr wr.heap.size from TxA.In.on (IA.out.each t hmem) ST.out.below (Nat.le_refl _))
      have RC := Lib.hid rc1
      have cc : wr.cell? ⟨w.heap.size, 65, none⟩ = some (.slice (some ⟨g1, o1, none⟩) a.txs.length a.c) := by rw [← e1]; exact BkA.c3 (RowC.of_blk ST.out.ka)
      have h60 := HV.out t hmem
      have LL := Lib.hid (show lst.length ≤ 2400 by
        rw [hx.out]
        have h1 := notesF_len ((a.txs.take j).map TxA.T) (fun T hT => by obtain ⟨u, hu, rfl⟩ := List.mem_map.1 hT; exact HV.out u (take_mem hu))
        rw [List.length_map, List.length_take] at h1
        have : min j a.txs.length ≤ j := Nat.min_le_left _ _
        omega)
      have NI := Lib.hid (show RowIn encK 32 wr wr.heap.size t.At t.ct t.T.notes from MI.out.notes)
      have cc1 : wr.cell? ⟨g1, o1 + j * 38 + 36, none⟩ = some (.slice t.At t.T.notes.length t.ct) := tx_notes RC.out
      clear ht hmem rc1 e1 hTS
      go_wp2_with ((with_reducible refine at_appendg 20 13 19 ?_); refine tyKy.wpList_appendIn rfl zcKy 32 zbKy (by omega) (.tmp 13) (.tmp 19) rfl (w.heap.size + 1) _ lst rfl OV.out _ t.At t.ct t.T.notes rfl NI.out (by have := LL.out; omega) SZ.out ?_; intro v4 w4 p4 g4
                   have OW := Lib.hid p4
                   have BG := Lib.hid (xown_grown OV.out g4 SZ.out)
                   have SZ' := Lib.hid (Nat.le_trans SZ.out BG.out.size)
                   have ST' := Lib.hid (show HvS w a w4 from ⟨ST.out.below.trans (BG.out.mono (by omega)), below_blk BG.out ST.out.ka (by omega)⟩)
                   clear p4 g4 OV BG SZ cc cc1 NI
                   clear ST; have ST := ST'; clear ST')
      go_roundw
      case rel => exact ⟨j + 1, lst ++ t.T.notes, by omega, by go_num, Lib.hid (by rw [HTS.out, notesF_snoc, ← hx.out]), OW, ST, SZ'⟩
      case measure => simp [intOf]; omega
    · have hje : j = a.txs.length := by omega
      have HE := Lib.hid (show lst = S by rw [hx.out, hje, List.take_length, HS.out])
      have cc := BkA.c3 (RowC.of_blk ST.out.ka)
      obtain ⟨A, c, hsl, _⟩ := RowIn.of_own encK_len OV.out
      subst hsl
      go_wp2
      go_ret
      refine ⟨⟨A, c, by rw [HE.out]; rfl, ?_⟩, ST.out.below⟩
      rw [← HE.out]
      exact xown_base OV.out (by omega)
set_option maxRecDepth 20000 in
set_option maxHeartbeats 8000000 in
theorem refEncB_any (a : BkA) (w : World) (h : a.In w w.heap.size) :
    Calls Tryd.prog 8 #[.agg a.cells.toArray] w fun e w' => e = .returned (encV (encBF a.B)) ∧ Below w.heap.size w w' := by
  have ST := Lib.hid (show HvS w a (w.alloc (.cells a.cells.toArray 27)) from ⟨(Below.refl _ _).alloc (Nat.le_refl _) _, Blk.new _ _ _⟩)
  have IA := Lib.hid h
  clear h
  have a3 := BkA.c3 (RowC.of_blk ST.out.ka)
  have hln : a.B.txs.length = a.txs.length := List.length_map _
  by_cases h0 : a.txs.length = 0
  · rw [show encBF a.B = ([], 110) by unfold encBF; rw [if_pos (by omega)]]
    have hd : ((a.txs.length : Int) == 0) = true := by rw [h0]; rfl
    clear h0 hln
    unfold encV
    go_enter Tryd.func8, Tryd.ntmps8
    go_wp2
    go_ret2
    exact ⟨rfl, ST.out.below⟩
  have hd0 : ((a.txs.length : Int) == 0) = false := beq_eq_false_iff_ne.mpr (by omega)
  by_cases h30 : 30 < a.txs.length
  · rw [show encBF a.B = ([], 51) by unfold encBF; rw [if_neg (by omega), if_pos (by omega)]]
    have hd : decide ((30 : Int) < (a.txs.length : Int)) = true := by simp; omega
    clear hln
    unfold encV
    go_enter Tryd.func8, Tryd.ntmps8
    go_wp2
    go_ret2
    exact ⟨rfl, ST.out.below⟩
  have hd1 : decide ((30 : Int) < (a.txs.length : Int)) = false := by simp; omega
  have hle : a.txs.length ≤ 30 := by omega
  obtain ⟨Y, hY⟩ : ∃ Y, encBF a.B = Y := ⟨_, rfl⟩
  rw [hY]
  obtain ⟨P, hP⟩ : ∃ P, a.prev.1 ++ (a.root.1 ++ (putL a.nonce.1.toNat 4 ++ cmpL a.txs.length)) = P := ⟨_, rfl⟩
  have HY := Lib.hid (show Y = encBX P (encTxs (a.txs.map TxA.T)) by
    rw [← hY]
    unfold encBF
    rw [if_neg (by omega), if_neg (by omega), show headB a.B.prev a.B.root a.B.nonce a.B.txs.length = P by rw [← hP, hln]; rfl]
    rfl)
  have HPL := Lib.hid (show P.length ≤ 77 by rw [← hP]; simp only [List.length_append, a.prev.2, a.root.2, putL_len]; have := cmpL_le a.txs.length; omega)
  obtain ⟨z, hz⟩ : ∃ z : Nat, a.nonce.1.toNat = z := ⟨_, rfl⟩
  rw [hz] at hP
  have hcz : IntKind.u64.wrap a.nonce.1 = (z : Int) := by have := wf_u32.1 a.nonce.2; rw [IntKind.wrap_u64]; omega
  have hcl : IntKind.u64.wrap (a.txs.length : Int) = (a.txs.length : Int) := by rw [IntKind.wrap_u64]; omega
  have ha1 : ∀ V, (Op.stringOp .add ⟨(a.prev.1).toArray⟩ ⟨(a.root.1).toArray⟩).run Tryd.prog V = .ok (.string ⟨(a.prev.1 ++ a.root.1).toArray⟩) V := fun V => run_string_add_lists V _ _ (by rw [a.prev.2]; omega) (by rw [a.root.2]; omega)
  have ha2 : ∀ V, (Op.stringOp .add ⟨(a.prev.1 ++ a.root.1).toArray⟩ ⟨(putL z 4).toArray⟩).run Tryd.prog V = .ok (.string ⟨(a.prev.1 ++ (a.root.1 ++ putL z 4)).toArray⟩) V := fun V => (run_string_add_lists V _ _ (by rw [List.length_append, a.prev.2, a.root.2]; omega) (by rw [putL_len]; omega)).trans (by rw [List.append_assoc])
  have ha3 : ∀ V, (Op.stringOp .add ⟨(a.prev.1 ++ (a.root.1 ++ putL z 4)).toArray⟩ ⟨(cmpL a.txs.length).toArray⟩).run Tryd.prog V = .ok (.string ⟨P.toArray⟩) V := fun V => (run_string_add_lists V _ _ (by rw [List.length_append, List.length_append, a.prev.2, a.root.2, putL_len]; omega) (by have := cmpL_le a.txs.length; omega)).trans (by rw [← hP]; simp only [List.append_assoc])
  clear hY hP hz hln h0 h30
  go_enter Tryd.func8, Tryd.ntmps8
  go_wp2_with fail
  refine wp_region_from (by kernel_rfl) (by kernel_rfl) ?_
  repeat (first
    | go_big_quiet_skip
    | ((with_reducible refine at_qload 16 ?_); refine tyKy.wpQuiet_load (by rfl) (.tmp 16) rfl w.heap.size 0 rfl a.prev (fun W hC => BkA.c0 (RowC.of_blk (below_blk hC.below ST.out.ka ST.out.ka.lt))) ?_; simp only [Act.put, List.setIfInBounds_toArray, List.set_cons_succ, List.set_cons_zero])
    | ((with_reducible refine at_qload 19 ?_); refine tyKy.wpQuiet_load (by rfl) (.tmp 19) rfl w.heap.size 32 rfl a.root (fun W hC => BkA.c1 (RowC.of_blk (below_blk hC.below ST.out.ka ST.out.ka.lt))) ?_; simp only [Act.put, List.setIfInBounds_toArray, List.set_cons_succ, List.set_cons_zero])
    | ((with_reducible refine at_qload 23 ?_); refine wpQuiet_load_one (by rfl) 24 (.tmp 23) rfl ⟨w.heap.size, 64, none⟩ rfl _ Tryd.isAgg24 (fun W hC => BkA.c2 (RowC.of_blk (below_blk hC.below ST.out.ka ST.out.ka.lt))) ?_; simp only [Act.put, List.setIfInBounds_toArray, List.set_cons_succ, List.set_cons_zero])
    | ((with_reducible refine at_qload 28 ?_); refine wpQuiet_load_one (by rfl) 25 (.tmp 28) rfl ⟨w.heap.size, 65, none⟩ rfl _ Tryd.isAgg25 (fun W hC => BkA.c3 (RowC.of_blk (below_blk hC.below ST.out.ka ST.out.ka.lt))) ?_; simp only [Act.put, List.setIfInBounds_toArray, List.set_cons_succ, List.set_cons_zero])
    | (go_big_quiet_want; go_big_quiet_op; refine ⟨_, fun _ _ => by with_reducible rfl, ?_⟩; go_big_quiet_on)
    | go_big_quiet_step ((intro hC; first
        | (go_at_call 29; with_reducible exact (rBytes_r a.prev _).mono fun _ _ h => ⟨h.1, hC.call h.2⟩)
        | (go_at_call 29; with_reducible exact (rBytes_r a.root _).mono fun _ _ h => ⟨h.1, hC.call h.2⟩)
        | (go_at_call 30; with_reducible exact (rPut4_r z _).mono fun _ _ h => ⟨h.1, hC.call h.2⟩)
        | (go_at_call 31; with_reducible exact (refCompact_any a.txs.length _).mono fun _ _ h => ⟨h.1, hC.call h.2⟩)
        | fail)))
  refine wpQuiet_nil ?_
  intro w9 hC
  have ST' := Lib.hid (ST.out.call hC.below)
  clear hC a3 ha1 ha2 ha3 hcz hcl hd0 hd1
  clear ST; have ST := ST'; clear ST'
  go_wp2_with fail
  go_loopw [4, 5] (fun s i wr => ∃ (j : Nat) (L S : List UInt8), j ≤ a.txs.length ∧ i = .int .i64 j ∧ s = .string ⟨L.toArray⟩ ∧ Hid (encTxs ((a.txs.take j).map TxA.T) = .ok S ∧ L = P ++ S ∧ S.length ≤ 6000 * j) ∧ Hid (HvS w a wr)) (fun _ i _ => a.txs.length - (intOf i).toNat)
  case atStart => exact ⟨0, P, [], by omega, rfl, rfl, Lib.hid ⟨rfl, by simp, by simp⟩, ST⟩
  case round =>
    clear ST
    obtain ⟨j, L, S, hj, rfl, rfl, hx, ST⟩ := hrel
    by_cases hlt : j < a.txs.length
    · have hj29 : j ≤ 29 := by omega
      obtain ⟨g1, o1, e1, l1, rc1⟩ := (IA.out.row.below ST.out.below).at TxA.len hlt
      obtain ⟨t, ht⟩ : ∃ t, a.txs[j] = t := ⟨_, rfl⟩
      have hmem : t ∈ a.txs := ht ▸ List.getElem_mem hlt
      have hTS := take_map_succ TxA.T a.txs j hlt
      rw [ht] at rc1 hTS
      have HTS := Lib.hid hTS
      have MI := Lib.hid (show t.In wr wr.heap.size from TxA.In.on (IA.out.each t hmem) ST.out.below (Nat.le_refl _))
      have RC := Lib.hid rc1
      have cc : wr.cell? ⟨w.heap.size, 65, none⟩ = some (.slice (some ⟨g1, o1, none⟩) a.txs.length a.c) := by rw [← e1]; exact BkA.c3 (RowC.of_blk ST.out.ka)
      have hsplit : a.txs.map TxA.T = (a.txs.take j).map TxA.T ++ t.T :: (a.txs.drop (j + 1)).map TxA.T := by
        rw [← List.map_cons, ← List.map_append, ← ht]
        congr 1
        exact (List.take_append_drop j a.txs).symm.trans (by rw [List.drop_eq_getElem_cons hlt])
      have HSP := Lib.hid hsplit
      clear ht hmem rc1 e1 hTS hsplit
      rcases (show (OkTx t.T ∧ encF t.T = (txB t.T, 0)) ∨ ∃ er, encF t.T = ([], er) ∧ er ≠ 0 by
        rcases encF_cases t.T with q | q | q
        · exact .inl q
        · exact .inr ⟨51, q, by decide⟩
        · exact .inr ⟨1, q, by decide⟩) with ⟨hok, he⟩ | ⟨er, he, her⟩
      · have HE := Lib.hid he
        have h6 := txB_six hok
        obtain ⟨X, hX⟩ : ∃ X, txB t.T = X := ⟨_, rfl⟩
        rw [hX] at he h6 HE
        have hadd : ∀ V, (Op.stringOp .add ⟨L.toArray⟩ ⟨X.toArray⟩).run Tryd.prog V = .ok (.string ⟨(L ++ X).toArray⟩) V := fun V => run_string_add_lists V _ _ (by rw [hx.out.2.1, List.length_append]; have := hx.out.2.2; have := HPL.out; omega) (by omega)
        have HNS := Lib.hid (show encTxs ((a.txs.take (j + 1)).map TxA.T) = .ok (S ++ X) by rw [HTS.out, encTxs_snoc _ _ _ hx.out.1, he]; rfl)
        have HNL := Lib.hid (show (S ++ X).length ≤ 6000 * (j + 1) by rw [List.length_append]; have := hx.out.2.2; omega)
        clear he hX hok h6
        go_wp2_with ((with_reducible refine at_load 45 ?_); refine tyTxR.wpList_load rfl (.tmp 45) rfl g1 (o1 + j * 38) rfl t RC.out ?_)
        refine (refEncA_any t _ MI.out).mono ?_
        rintro e w1 ⟨rfl, b1⟩
        rw [HE.out]
        unfold encV
        have ST' := Lib.hid (ST.out.call b1)
        clear b1 cc
        clear ST; have ST := ST'; clear ST'
        go_wp2_with fail
        go_roundw
        case rel => exact ⟨j + 1, L ++ X, S ++ X, by omega, by go_num, rfl, Lib.hid ⟨HNS.out, by rw [hx.out.2.1, List.append_assoc], HNL.out⟩, ST⟩
        case measure => simp [intOf]; omega
      · have HE := Lib.hid he
        have hder : (er == 0) = false := beq_eq_false_iff_ne.mpr her
        have HYE := Lib.hid (show Y = ([], er) by
          rw [HY.out, HSP.out, encTxs_first _ _ _ S hx.out.1 (by rw [he]; exact her), he]
          rfl)
        clear he her
        go_wp2_with ((with_reducible refine at_load 45 ?_); refine tyTxR.wpList_load rfl (.tmp 45) rfl g1 (o1 + j * 38) rfl t RC.out ?_)
        refine (refEncA_any t _ MI.out).mono ?_
        rintro e w1 ⟨rfl, b1⟩
        rw [HE.out]
        unfold encV
        have ST' := Lib.hid (ST.out.call b1)
        clear b1 cc
        clear ST; have ST := ST'; clear ST'
        go_wp2
        go_ret2
        exact ⟨by rw [HYE.out]; rfl, ST.out.below⟩
    · have hje : j = a.txs.length := by omega
      have HYE := Lib.hid (show Y = (L, 0) by
        have h1 := hx.out.1
        rw [hje, List.take_length] at h1
        rw [HY.out, h1, hx.out.2.1]
        rfl)
      have cc := BkA.c3 (RowC.of_blk ST.out.ka)
      go_wp2
      go_ret2
      exact ⟨by rw [HYE.out]; rfl, ST.out.below⟩
end Go.Proofs.YthpnmmilioonhaaDoor
