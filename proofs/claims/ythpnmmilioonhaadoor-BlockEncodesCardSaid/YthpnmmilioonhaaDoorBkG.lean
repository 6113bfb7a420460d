/- A block's transactions gone through by an iterator (slices.Values). -/
import Derived.Test.YthpnmmilioonhaaDoorBkF
import Derived.Test.YthpnmmilioonhaaDoorBkW
import Derived.Test.YthpnmmilioonhaaDoorBkQ
import Derived.Test.YthpnmmilioonhaaDoorTxAllA
namespace Go.Proofs.YthpnmmilioonhaaDoor
open Go.RowKit Go.Shelf
attribute [local go_sem] Oper.semAt_some
/-- a transaction of the list -/
abbrev OfL (l : List TxA) := { t : TxA // t ∈ l }
theorem attach_take_map (l : List TxA) (k : Nat) : (l.attach.take k).map (·.1) = l.take k := by
  rw [List.map_take, List.attach_map_subtype_val]
theorem attach_T (l : List TxA) : l.map TxA.T = l.attach.map fun x => x.1.T := by
  have h := congrArg (List.map TxA.T) (List.attach_map_subtype_val l)
  rw [List.map_map] at h
  exact h.symm
theorem attach_take_succ (l : List TxA) (k : Nat) (hk : k < l.length) : l.attach.take (k + 1) = l.attach.take k ++ [⟨l[k], List.getElem_mem hk⟩] := by
  rw [List.take_succ_eq_append_getElem (by rw [List.length_attach]; exact hk)]
  congr 2
  simp
set_option maxRecDepth 100000 in
set_option maxHeartbeats 2000000 in
theorem values_in (F : Fence) (n : Nat) (hf : F.fn 59) (hro : F.round = none) (A : Option Addr) (m c : Nat) (w : World) :
    CallsIn F n Tryd.prog 59 #[.slice A m c] w fun e w' => e = .returned (.func (.func 83) #[] #[.pointer (some ⟨w.heap.size, 0, none⟩)]) ∧ w' = w.alloc (.cells #[.slice A m c] 25) := by
  refine callsIn_of_wp Tryd.func59 rfl hf ?_ hro
  simp only [Tryd.ntmps59, List.size_toArray, List.length_cons, List.length_nil, Nat.reduceAdd, Nat.reduceSub, Array.replicate_succ, Array.replicate_zero, List.push_toArray, List.append_toArray, List.nil_append, List.cons_append]
  gi_wp2
  go_ret
  exact ⟨rfl, rfl⟩
set_option maxRecDepth 100000 in
set_option maxHeartbeats 2000000 in
theorem txs_in (F : Fence) (n : Nat) (hn : 1 ≤ n) (hf : F.fn 35) (hv : F.fn 59) (hro : F.round = none) (a : BkA) (w : World) :
    CallsIn F n Tryd.prog 35 #[.agg a.cells.toArray] w fun e w' => e = .returned (.func (.func 83) #[] #[.pointer (some ⟨w.heap.size + 1, 0, none⟩)]) ∧ w' = (w.alloc (.cells a.cells.toArray 27)).alloc (.cells #[.slice a.A a.txs.length a.c] 25) := by
  have c3 := BkA.c3 (RowC.of_blk (Blk.new w 27 a.cells.toArray))
  refine callsIn_of_wp Tryd.func35 rfl hf ?_ hro
  simp only [Tryd.ntmps35, List.size_toArray, List.length_cons, List.length_nil, Nat.reduceAdd, Nat.reduceSub, Array.replicate_succ, Array.replicate_zero, List.push_toArray, List.append_toArray, List.nil_append, List.cons_append]
  gi_wp2_with (gi_at_call 59; refine (values_in F (n - 1) hv hro a.A a.txs.length a.c _).mono ?_; rintro e w' ⟨rfl, rfl⟩)
  go_ret
  exact ⟨by simp, rfl⟩
set_option maxRecDepth 100000 in
set_option maxHeartbeats 4000000 in
theorem txs1_some_in (g o : Nat) (F : Fence) (n : Nat) (hf : F.fn 83) (hro : F.round = none) (hn : 1 ≤ n) (l Bs n₀ : Nat) (a : BkA) (J Jx : List (OfL a.txs) → World → Prop) (W : World)
    (hJ : AbidesFrom W.heap.size J) (hn0 : n₀ ≤ W.heap.size)
    (hY : ∀ pre x W1, J pre W1 → pre.length < a.txs.length → YieldAt F (n - 1) Tryd.prog l #[.agg x.1.cells.toArray] W1 fun e W' =>
      (e = .returned (.bool true) ∧ J (pre ++ [x]) W' ∧ Below n₀ W1 W') ∨ (e = .returned (.bool false) ∧ Jx (pre ++ [x]) W'))
    (hBs : Blk W Bs 25 #[.slice a.A a.txs.length a.c]) (hI : RowIn TxA.cells 38 W n₀ a.A a.c a.txs) (hA : a.A = some ⟨g, o, none⟩) (h0 : J [] W) :
    CallsIn F n Tryd.prog 83 #[.func (.yield l) #[] #[], .pointer (some ⟨Bs, 0, none⟩)] W fun e W' => (∃ v, e = .returned v) ∧
      ((∃ ys, ys = a.txs.attach ∧ J ys W') ∨ (∃ pre, (∃ k, k ≤ a.txs.length ∧ pre = a.txs.attach.take k) ∧ Jx pre W')) := by
  have hal : ∀ (s : List (OfL a.txs)) (V : World) (o : Obj), J s V → J s (V.alloc o) := fun s V o h => hJ s V _ none h (World.grownBy_alloc V o none) (fun r e => by cases e)
  have c3 : W.cell? ⟨Bs, 0, none⟩ = some (.slice a.A a.txs.length a.c) := hBs.cell 0
  rw [hA] at c3
  have HA := Lib.hid hA
  have hm0 : a.txs.length ≤ 9223372036854775807 := by have h1 := hI.le; have h2 := hI.max; unfold maxLen at h2; omega
  have HBs := Lib.hid hBs
  have HI := Lib.hid hI
  clear hBs hI hJ hA
  refine callsIn_of_wp Tryd.func83 rfl hf ?_ hro
  simp only [Tryd.ntmps83, List.size_toArray, List.length_cons, List.length_nil, Nat.reduceAdd, Nat.reduceSub, Array.replicate_succ, Array.replicate_zero, List.push_toArray, List.append_toArray, List.nil_append, List.cons_append]
  gi_wp2
  clear c3
  gi_loopw [7] (fun i wr => ∃ k : Nat, k ≤ a.txs.length ∧ i = .int .i64 k ∧ J (a.txs.attach.take k) wr ∧ Below n₀ W wr ∧ n₀ ≤ wr.heap.size)
    (fun i _ => a.txs.length - (intOf i).toNat)
  case atStart => exact ⟨0, Nat.zero_le _, rfl, by simpa using h0, Below.refl _ _, hn0⟩
  case round =>
    obtain ⟨k, hk, rfl, hJs, hnx, hwr⟩ := hrel
    by_cases hlt : k < a.txs.length
    · obtain ⟨g1, o1, e1, l1, rc1⟩ := (HI.out.below hnx).at TxA.len hlt
      obtain ⟨rfl, rfl⟩ : g1 = g ∧ o1 = o := by rw [HA.out] at e1; injection e1 with e1; injection e1 with e1 e2 e3; exact ⟨e1.symm, e2.symm⟩
      clear e1
      obtain ⟨x, hx⟩ : ∃ x : OfL a.txs, (⟨a.txs[k], List.getElem_mem hlt⟩ : OfL a.txs) = x := ⟨_, rfl⟩
      have hx1 : a.txs[k] = x.1 := by rw [← hx]
      rw [hx1] at rc1
      have HTK := Lib.hid (show a.txs.attach.take (k + 1) = a.txs.attach.take k ++ [x] by rw [attach_take_succ _ _ hlt, hx])
      have HLN := Lib.hid (show (a.txs.attach.take k).length < a.txs.length by rw [List.length_take, List.length_attach]; omega)
      obtain ⟨fn, tmps, assign, body, hy, hR⟩ := hY _ x (wr.alloc (.cells x.1.cells.toArray 32)) (hal _ _ _ hJs) HLN.out
      have HR := Lib.hid hR
      have RC := Lib.hid rc1
      have BA := Lib.hid (show Below n₀ W (wr.alloc (.cells x.1.cells.toArray 32)) from hnx.alloc hwr _)
      clear hx hx1 rc1 hR
      gi_wp2_with (first
        | ((with_reducible refine at_loadIn 9 ?_); refine tyTxR.wpListIn_load rfl (.tmp 9) rfl g1 (o1 + k * 38) rfl x.1 RC.out ?_)
        | ((with_reducible refine at_storeIn 4 10 ?_); refine tyTx.wpListIn_storeNew rfl (.tmp 4) (.tmp 10) rfl rfl x.1 rfl rfl (by kernel_rfl) ?_)
        | ((with_reducible refine at_loadIn 4 ?_); refine tyTx.wpListIn_load rfl (.tmp 4) rfl wr.heap.size 0 rfl x.1 (by simpa using RowC.of_blk (Blk.new wr 32 x.1.cells.toArray)) ?_))
      refine HR.out.mono ?_
      rintro e W3 (⟨rfl, hJ3, hk3⟩ | ⟨rfl, hJx3⟩)
      · have BW := Lib.hid (BA.out.trans hk3)
        have SZ := Lib.hid (Nat.le_trans (show n₀ ≤ (wr.alloc (.cells x.1.cells.toArray 32)).heap.size by simp; omega) hk3.size)
        gi_wp2
        go_roundw
        case rel => exact ⟨k + 1, by omega, by go_num, by rw [HTK.out]; exact hJ3, BW.out, SZ.out⟩
        case measure => simp [intOf]; omega
      · gi_wp2
        refine bodyPost_ret (results_none rfl _ _ _) rfl ?_
        exact ⟨⟨_, rfl⟩, .inr ⟨_, ⟨k + 1, by omega, HTK.out.symm⟩, hJx3⟩⟩
    · obtain rfl : k = a.txs.length := by omega
      gi_wp2
      go_end0
      exact ⟨⟨_, rfl⟩, .inl ⟨_, rfl, by rwa [List.take_of_length_le (by rw [List.length_attach]; omega)] at hJs⟩⟩
set_option maxRecDepth 100000 in
set_option maxHeartbeats 4000000 in
theorem txs1_nil_in (F : Fence) (n : Nat) (hf : F.fn 83) (hro : F.round = none) (l Bs : Nat) (a : BkA) (J : List (OfL a.txs) → World → Prop) (W : World)
    (hBs : Blk W Bs 25 #[.slice a.A a.txs.length a.c]) (hz : a.txs = []) (h0 : J [] W) :
    CallsIn F n Tryd.prog 83 #[.func (.yield l) #[] #[], .pointer (some ⟨Bs, 0, none⟩)] W fun e W' => (∃ v, e = .returned v) ∧ J [] W' := by
  have c3 : W.cell? ⟨Bs, 0, none⟩ = some (.slice a.A 0 a.c) := by have := hBs.cell 0; rwa [hz] at this
  clear hBs hz
  refine callsIn_of_wp Tryd.func83 rfl hf ?_ hro
  simp only [Tryd.ntmps83, List.size_toArray, List.length_cons, List.length_nil, Nat.reduceAdd, Nat.reduceSub, Array.replicate_succ, Array.replicate_zero, List.push_toArray, List.append_toArray, List.nil_append, List.cons_append]
  gi_wp2
  gi_loopw [7] (fun i wr => i = .int .i64 0 ∧ J [] wr) (fun _ _ => 0)
  case atStart => exact ⟨rfl, h0⟩
  case round =>
    obtain ⟨rfl, hJs⟩ := hrel
    gi_wp2
    go_end0
    exact ⟨⟨_, rfl⟩, hJs⟩
theorem txs_stops (F : Fence) (n : Nat) (hf : F.fn 83) (hro : F.round = none) (hn : 1 ≤ n) (Bs n₀ : Nat) (a : BkA) (w : World) (hn0 : n₀ ≤ w.heap.size)
    (hBs : Blk w Bs 25 #[.slice a.A a.txs.length a.c]) (hI : RowIn TxA.cells 38 w n₀ a.A a.c a.txs) :
    SeqStopsK F n Tryd.prog 83 #[.pointer (some ⟨Bs, 0, none⟩)] (fun x : OfL a.txs => #[.agg x.1.cells.toArray]) (Below n₀) (fun ys => ys = a.txs.attach) (fun pre => ∃ k, k ≤ a.txs.length ∧ pre = a.txs.attach.take k) a.txs.length w := fun l J Jx W hW hJ _ hY h0 => by
  have hBs' := below_blk hW hBs hBs.lt
  have hI' := hI.below (hW.mono hn0)
  by_cases hz : a.txs = []
  · refine (txs1_nil_in F n hf hro l Bs a J W hBs' hz h0).mono fun e W' ⟨he, hj⟩ => ⟨he, .inl ⟨_, rfl, ?_⟩⟩
    have : a.txs.attach = [] := List.attach_eq_nil_iff.2 hz
    rw [this]; exact hj
  · obtain ⟨g, o, hA, _, _⟩ := hI'.cells hz
    exact txs1_some_in g o F n hf hro hn l Bs n₀ a J Jx W hJ (Nat.le_trans hn0 hW.size) hY hBs' hI' hA h0
end Go.Proofs.YthpnmmilioonhaaDoor
