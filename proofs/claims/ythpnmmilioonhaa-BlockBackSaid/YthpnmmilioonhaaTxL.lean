/- tx.list at its three types. Written by genList.py. -/
import Derived.Test.YthpnmmilioonhaaTxT
namespace Go.Proofs.Ythpnmmilioonhaa
open Go.RowKit
def contL {α : Type} (pre : List α) (x : Except Int (List α × List UInt8)) : Except Int (List α × List UInt8) := match x with
  | .error e => .error e
  | .ok (l, r) => .ok (pre ++ l, r)
theorem listR_err {α : Type} {R : Rd α} {m : Nat} {r : List UInt8} {e : Int} (h : R r = .error e) : listR R (m + 1) r = .error e := by
  simp only [listR, mapR, thenR, h]
theorem listR_ok {α : Type} {R : Rd α} {m : Nat} {r r2 : List UInt8} {a : α} (h : R r = .ok (a, r2)) (pre : List α) : contL pre (listR R (m + 1) r) = contL (pre ++ [a]) (listR R m r2) := by
  simp only [listR, mapR, thenR, h]
  cases listR R m r2 with
  | error e => rfl
  | ok p => obtain ⟨l, r⟩ := p; simp [contL]
/-- a slice of what was read, whole in a block of its own -/
def VL {α : Type} (enc : α → List Value) (e : TypeId) (l : List α) (v : Value) (w : World) : Prop := ∃ h, v = .slice (some ⟨h, 0, none⟩) l.length l.length ∧ Blk w h e (cellsOf enc l).toArray
theorem set_fill {α : Type} (l : List α) (z a : α) (m : Nat) : (l ++ List.replicate (m + 1) z).set l.length a = (l ++ [a]) ++ List.replicate m z := by
  rw [List.replicate_succ]
  simp
set_option maxRecDepth 20000 in
set_option maxHeartbeats 1000000 in
theorem listPt_r (n : Nat) (hn : n ≤ 1000) (l : List UInt8) (hs : l.length ≤ 1000000) (g : Nat) (w : World) (hr : Rb w g l) :
    Calls Try.prog 85 #[.int .i64 n, .func (.func 87) #[.pointer (some ⟨g, 0, none⟩)] #[]] w (EndR (VL (encKI .u32) 49) g w (listR ptR n l)) := by
  have hmk : ∀ W, (Instr.makeSlice 40 (.int .i64 (n : Int)) (.int .i64 (n : Int))).run Try.prog W = .ok (.slice (some ⟨W.heap.size, 0, none⟩) n n) (W.alloc (.cells (cellsOf (encKI .u32) (List.replicate n (zeroKey, txZero.exp))).toArray 49)) := fun W =>
    tyPt.made W (zeroKey, txZero.exp) (.agg (encKI .u32 (zeroKey, txZero.exp)).toArray) 36 (by kernel_rfl) rfl (by omega) .i64 .i64 n (by omega)
  have hg : g < w.heap.size := hr.lt
  obtain ⟨X, hX⟩ : ∃ X, listR ptR n l = X := ⟨_, rfl⟩
  rw [hX]
  have HX := Lib.hid hX
  have HR := Lib.hid hr
  clear hr hX
  go_enter Try.func85, Try.ntmps85
  go_wp2_with fail
  clear hmk
  go_loopw [11] (fun i wr => ∃ (lst : List (K32 × IntV .u32)) (r : List UInt8) (m : Nat), lst.length + m = n ∧ i = .int .i64 (lst.length : Nat) ∧ Hid (X = contL lst (listR ptR m r) ∧ r.length ≤ 1000000) ∧ Hid (Rb wr g r ∧ Blk wr w.heap.size 49 (cellsOf (encKI .u32) (lst ++ List.replicate m (zeroKey, txZero.exp))).toArray ∧ Past g w wr)) (fun i _ => n - (intOf i).toNat)
  case atStart =>
    refine ⟨[], l, n, by simp, rfl, Lib.hid ⟨?_, hs⟩, Lib.hid ⟨HR.out.alloc _, ?_, Past.of_below ((Below.refl _ _).alloc (Nat.le_refl _) _)⟩⟩
    · rw [HX.out]; cases X <;> rfl
    · exact Blk.new w _ _
  case round =>
    obtain ⟨lst, r, m, hlm, rfl, hx, hw⟩ := hrel
    obtain ⟨j, hj⟩ : ∃ j, lst.length = j := ⟨_, rfl⟩
    have HJ := Lib.hid hj
    rw [hj]
    cases m with
    | zero =>
      have hjn : j = n := by omega
      clear hlm hj
      subst hjn
      go_wp2
      go_ret
      rw [hx.out.1]
      refine ⟨_, rfl, ⟨w.heap.size, ?_, ?_⟩, hw.out.1, hw.out.2.2⟩
      · rw [List.append_nil, HJ.out]; rfl
      · have := hw.out.2.1
        simpa using this
    | succ m =>
      have hlt : j < n := by omega
      clear hj
      have hc := point_r r hx.out.2 g wr hw.out.1
      cases hq : ptR r with
      | error er =>
        rw [hq] at hc
        have HC := Lib.hid hc
        have HE := Lib.hid (show X = .error er by rw [hx.out.1, listR_err hq]; rfl)
        clear hc hq hlm
        go_wp2_with fail
        refine HC.out.mono ?_
        rintro e w1 ⟨rfl, p1⟩
        refine ⟨rfl, ?_⟩
        rw [HE.out]
        exact ⟨rfl, hw.out.2.2.trans p1⟩
      | ok x =>
        obtain ⟨a, r2⟩ := x
        rw [hq] at hc
        have HC := Lib.hid hc
        have HE := Lib.hid (show X = contL (lst ++ [a]) (listR ptR m r2) by rw [hx.out.1, listR_ok hq])
        have HS := Lib.hid (rest_len good_pt hq hx.out.2)
        clear hc hq
        go_wp2_with fail
        refine HC.out.mono ?_
        rintro e w1 ⟨v, rfl, rfl, b1, p1⟩
        have KH := Lib.hid (p1.blk hw.out.2.1 (by omega))
        have P1 := Lib.hid (hw.out.2.2.trans p1)
        have B1 := Lib.hid b1
        have HLM := Lib.hid hlm
        clear b1 p1 HC hx hw hlm
        go_wp2_with ((with_reducible refine at_store 18 17 ?_); refine tyPt.wpList_store rfl (.tmp 18) (.tmp 17) rfl rfl w.heap.size j a rfl rfl 49 _ KH.out (by rw [List.length_append, HJ.out, List.length_replicate]; omega) ?_; intro w2 o2 b2)
        have K2 := Lib.hid (show Blk w2 w.heap.size 49 (cellsOf (encKI .u32) ((lst ++ [a]) ++ List.replicate m (zeroKey, txZero.exp))).toArray by rw [← set_fill, HJ.out]; exact b2)
        have e1 : (lst ++ [a]).length = j + 1 := by rw [List.length_append, HJ.out]; rfl
        clear b2
        go_roundw
        case rel => exact ⟨lst ++ [a], r2, m, by rw [e1]; have h1 := HLM.out; have h2 := HJ.out; omega, by rw [e1]; go_num, Lib.hid ⟨HE.out, HS.out⟩, Lib.hid ⟨o2.blk B1.out (by simp; omega), K2.out, P1.out.new o2 (Nat.le_refl _)⟩⟩
        case measure =>
          have h2 := HJ.out
          simp [intOf]
          omega
set_option maxRecDepth 20000 in
set_option maxHeartbeats 1000000 in
theorem listOut_r (n : Nat) (hn : n ≤ 1000) (l : List UInt8) (hs : l.length ≤ 1000000) (g : Nat) (w : World) (hr : Rb w g l) :
    Calls Try.prog 88 #[.int .i64 n, .func (.func 89) #[.pointer (some ⟨g, 0, none⟩)] #[]] w (EndR (VL (encIK .i64) 92) g w (listR outR n l)) := by
  have hmk : ∀ W, (Instr.makeSlice 41 (.int .i64 (n : Int)) (.int .i64 (n : Int))).run Try.prog W = .ok (.slice (some ⟨W.heap.size, 0, none⟩) n n) (W.alloc (.cells (cellsOf (encIK .i64) (List.replicate n (txZero.bal, zeroKey))).toArray 92)) := fun W =>
    tyOut.made W (txZero.bal, zeroKey) (.agg (encIK .i64 (txZero.bal, zeroKey)).toArray) 40 (by kernel_rfl) rfl (by omega) .i64 .i64 n (by omega)
  have hg : g < w.heap.size := hr.lt
  obtain ⟨X, hX⟩ : ∃ X, listR outR n l = X := ⟨_, rfl⟩
  rw [hX]
  have HX := Lib.hid hX
  have HR := Lib.hid hr
  clear hr hX
  go_enter Try.func88, Try.ntmps88
  go_wp2_with fail
  clear hmk
  go_loopw [11] (fun i wr => ∃ (lst : List (IntV .i64 × K32)) (r : List UInt8) (m : Nat), lst.length + m = n ∧ i = .int .i64 (lst.length : Nat) ∧ Hid (X = contL lst (listR outR m r) ∧ r.length ≤ 1000000) ∧ Hid (Rb wr g r ∧ Blk wr w.heap.size 92 (cellsOf (encIK .i64) (lst ++ List.replicate m (txZero.bal, zeroKey))).toArray ∧ Past g w wr)) (fun i _ => n - (intOf i).toNat)
  case atStart =>
    refine ⟨[], l, n, by simp, rfl, Lib.hid ⟨?_, hs⟩, Lib.hid ⟨HR.out.alloc _, ?_, Past.of_below ((Below.refl _ _).alloc (Nat.le_refl _) _)⟩⟩
    · rw [HX.out]; cases X <;> rfl
    · exact Blk.new w _ _
  case round =>
    obtain ⟨lst, r, m, hlm, rfl, hx, hw⟩ := hrel
    obtain ⟨j, hj⟩ : ∃ j, lst.length = j := ⟨_, rfl⟩
    have HJ := Lib.hid hj
    rw [hj]
    cases m with
    | zero =>
      have hjn : j = n := by omega
      clear hlm hj
      subst hjn
      go_wp2
      go_ret
      rw [hx.out.1]
      refine ⟨_, rfl, ⟨w.heap.size, ?_, ?_⟩, hw.out.1, hw.out.2.2⟩
      · rw [List.append_nil, HJ.out]; rfl
      · have := hw.out.2.1
        simpa using this
    | succ m =>
      have hlt : j < n := by omega
      clear hj
      have hc := out_r r hx.out.2 g wr hw.out.1
      cases hq : outR r with
      | error er =>
        rw [hq] at hc
        have HC := Lib.hid hc
        have HE := Lib.hid (show X = .error er by rw [hx.out.1, listR_err hq]; rfl)
        clear hc hq hlm
        go_wp2_with fail
        refine HC.out.mono ?_
        rintro e w1 ⟨rfl, p1⟩
        refine ⟨rfl, ?_⟩
        rw [HE.out]
        exact ⟨rfl, hw.out.2.2.trans p1⟩
      | ok x =>
        obtain ⟨a, r2⟩ := x
        rw [hq] at hc
        have HC := Lib.hid hc
        have HE := Lib.hid (show X = contL (lst ++ [a]) (listR outR m r2) by rw [hx.out.1, listR_ok hq])
        have HS := Lib.hid (rest_len good_out hq hx.out.2)
        clear hc hq
        go_wp2_with fail
        refine HC.out.mono ?_
        rintro e w1 ⟨v, rfl, rfl, b1, p1⟩
        have KH := Lib.hid (p1.blk hw.out.2.1 (by omega))
        have P1 := Lib.hid (hw.out.2.2.trans p1)
        have B1 := Lib.hid b1
        have HLM := Lib.hid hlm
        clear b1 p1 HC hx hw hlm
        go_wp2_with ((with_reducible refine at_store 18 17 ?_); refine tyOut.wpList_store rfl (.tmp 18) (.tmp 17) rfl rfl w.heap.size j a rfl rfl 92 _ KH.out (by rw [List.length_append, HJ.out, List.length_replicate]; omega) ?_; intro w2 o2 b2)
        have K2 := Lib.hid (show Blk w2 w.heap.size 92 (cellsOf (encIK .i64) ((lst ++ [a]) ++ List.replicate m (txZero.bal, zeroKey))).toArray by rw [← set_fill, HJ.out]; exact b2)
        have e1 : (lst ++ [a]).length = j + 1 := by rw [List.length_append, HJ.out]; rfl
        clear b2
        go_roundw
        case rel => exact ⟨lst ++ [a], r2, m, by rw [e1]; have h1 := HLM.out; have h2 := HJ.out; omega, by rw [e1]; go_num, Lib.hid ⟨HE.out, HS.out⟩, Lib.hid ⟨o2.blk B1.out (by simp; omega), K2.out, P1.out.new o2 (Nat.le_refl _)⟩⟩
        case measure =>
          have h2 := HJ.out
          simp [intOf]
          omega
set_option maxRecDepth 20000 in
set_option maxHeartbeats 1000000 in
theorem listKey_r (n : Nat) (hn : n ≤ 1000) (l : List UInt8) (hs : l.length ≤ 1000000) (g : Nat) (w : World) (hr : Rb w g l) :
    Calls Try.prog 91 #[.int .i64 n, .func (.func 90) #[.pointer (some ⟨g, 0, none⟩)] #[]] w (EndR (VL (encK) 24) g w (listR keyR n l)) := by
  have hmk : ∀ W, (Instr.makeSlice 42 (.int .i64 (n : Int)) (.int .i64 (n : Int))).run Try.prog W = .ok (.slice (some ⟨W.heap.size, 0, none⟩) n n) (W.alloc (.cells (cellsOf (encK) (List.replicate n zeroKey)).toArray 24)) := fun W =>
    tyKy.made W zeroKey (.agg (encK zeroKey).toArray) 32 (by kernel_rfl) rfl (by omega) .i64 .i64 n (by omega)
  have hg : g < w.heap.size := hr.lt
  obtain ⟨X, hX⟩ : ∃ X, listR keyR n l = X := ⟨_, rfl⟩
  rw [hX]
  have HX := Lib.hid hX
  have HR := Lib.hid hr
  clear hr hX
  go_enter Try.func91, Try.ntmps91
  go_wp2_with fail
  clear hmk
  go_loopw [11] (fun i wr => ∃ (lst : List (K32)) (r : List UInt8) (m : Nat), lst.length + m = n ∧ i = .int .i64 (lst.length : Nat) ∧ Hid (X = contL lst (listR keyR m r) ∧ r.length ≤ 1000000) ∧ Hid (Rb wr g r ∧ Blk wr w.heap.size 24 (cellsOf (encK) (lst ++ List.replicate m zeroKey)).toArray ∧ Past g w wr)) (fun i _ => n - (intOf i).toNat)
  case atStart =>
    refine ⟨[], l, n, by simp, rfl, Lib.hid ⟨?_, hs⟩, Lib.hid ⟨HR.out.alloc _, ?_, Past.of_below ((Below.refl _ _).alloc (Nat.le_refl _) _)⟩⟩
    · rw [HX.out]; cases X <;> rfl
    · exact Blk.new w _ _
  case round =>
    obtain ⟨lst, r, m, hlm, rfl, hx, hw⟩ := hrel
    obtain ⟨j, hj⟩ : ∃ j, lst.length = j := ⟨_, rfl⟩
    have HJ := Lib.hid hj
    rw [hj]
    cases m with
    | zero =>
      have hjn : j = n := by omega
      clear hlm hj
      subst hjn
      go_wp2
      go_ret
      rw [hx.out.1]
      refine ⟨_, rfl, ⟨w.heap.size, ?_, ?_⟩, hw.out.1, hw.out.2.2⟩
      · rw [List.append_nil, HJ.out]; rfl
      · have := hw.out.2.1
        simpa using this
    | succ m =>
      have hlt : j < n := by omega
      clear hj
      have hc := key_r r hx.out.2 g wr hw.out.1
      cases hq : keyR r with
      | error er =>
        rw [hq] at hc
        have HC := Lib.hid hc
        have HE := Lib.hid (show X = .error er by rw [hx.out.1, listR_err hq]; rfl)
        clear hc hq hlm
        go_wp2_with fail
        refine HC.out.mono ?_
        rintro e w1 ⟨rfl, p1⟩
        refine ⟨rfl, ?_⟩
        rw [HE.out]
        exact ⟨rfl, hw.out.2.2.trans p1⟩
      | ok x =>
        obtain ⟨a, r2⟩ := x
        rw [hq] at hc
        have HC := Lib.hid hc
        have HE := Lib.hid (show X = contL (lst ++ [a]) (listR keyR m r2) by rw [hx.out.1, listR_ok hq])
        have HS := Lib.hid (rest_len good_key hq hx.out.2)
        clear hc hq
        go_wp2_with fail
        refine HC.out.mono ?_
        rintro e w1 ⟨v, rfl, rfl, b1, p1⟩
        have KH := Lib.hid (p1.blk hw.out.2.1 (by omega))
        have P1 := Lib.hid (hw.out.2.2.trans p1)
        have B1 := Lib.hid b1
        have HLM := Lib.hid hlm
        clear b1 p1 HC hx hw hlm
        go_wp2_with ((with_reducible refine at_store 18 17 ?_); refine tyKy.wpList_store rfl (.tmp 18) (.tmp 17) rfl rfl w.heap.size j a rfl rfl 24 _ KH.out (by rw [List.length_append, HJ.out, List.length_replicate]; omega) ?_; intro w2 o2 b2)
        have K2 := Lib.hid (show Blk w2 w.heap.size 24 (cellsOf (encK) ((lst ++ [a]) ++ List.replicate m zeroKey)).toArray by rw [← set_fill, HJ.out]; exact b2)
        have e1 : (lst ++ [a]).length = j + 1 := by rw [List.length_append, HJ.out]; rfl
        clear b2
        go_roundw
        case rel => exact ⟨lst ++ [a], r2, m, by rw [e1]; have h1 := HLM.out; have h2 := HJ.out; omega, by rw [e1]; go_num, Lib.hid ⟨HE.out, HS.out⟩, Lib.hid ⟨o2.blk B1.out (by simp; omega), K2.out, P1.out.new o2 (Nat.le_refl _)⟩⟩
        case measure =>
          have h2 := HJ.out
          simp [intOf]
          omega
end Go.Proofs.Ythpnmmilioonhaa
