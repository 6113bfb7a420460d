/- Encode: two steps that are closures, tried one by one; then its region of five calls, one of which reads a builder. -/
import Derived.Test.YthpnmmilioonhaaDoorBkY
import Derived.Test.YthpnmmilioonhaaDoorBkH
namespace Go.Proofs.YthpnmmilioonhaaDoor
open Go.RowKit
def mayI (n : Nat) : Int := if n = 0 then 110 else if 30 < n then 51 else 0
theorem e1_any (gn n : Nat) (hn : n ≤ 1000000000) (w : World) (h : Blk w gn 49 #[.int .u64 n]) :
    Calls Tryd.prog 21 #[.pointer (some ⟨gn, 0, none⟩)] w fun e w' => e = .returned (.int .i64 (mayI n)) ∧ w' = w := by
  have c := h.cell 0
  have hc : ∀ w, Calls Tryd.prog 22 #[.int .u64 n] w fun e w' => e = .returned (.int .i64 (mayI n)) ∧ w' = w := fun w => bmay_any n (by omega) w
  obtain ⟨z, hz⟩ : ∃ z, mayI n = z := ⟨_, rfl⟩
  rw [hz] at hc ⊢
  have HC := Lib.hid hc
  clear hc hz
  go_enter Tryd.func21, Tryd.ntmps21
  go_wp2_with fail
  refine (HC.out _).mono ?_
  rintro e w1 ⟨rfl, rfl⟩
  go_wp2_with fail
  go_ret
  exact ⟨rfl, rfl⟩
theorem e2_any (B gw gb : Nat) (a : BkA) (w : World) (hB : B ≤ w.heap.size) (h : a.In w B) (h60 : a.txs.length ≤ 60) (hb : BldF B gw [] w) (hk : Blk w gb 27 a.cells.toArray) :
    Calls Tryd.prog 23 #[.pointer (some ⟨gw, 0, none⟩), .pointer (some ⟨gb, 0, none⟩)] w (EndWr B gw w (encTxs (a.txs.map TxA.T))) := by
  have hc := callsIn_wide.1 (writeTxs_in B gw a w hB h h60 hb)
  obtain ⟨X, hX⟩ : ∃ X, encTxs (a.txs.map TxA.T) = X := ⟨_, rfl⟩
  rw [hX] at hc ⊢
  clear hX
  have KK := Lib.hid hk
  have HC := Lib.hid hc
  clear hk hc h hb
  go_enter Tryd.func23, Tryd.ntmps23
  go_wp2_with ((with_reducible refine at_load 1 ?_); refine tyBk.wpList_load rfl (.tmp 1) rfl gb 0 rfl a (RowC.of_blk KK.out) ?_)
  refine HC.out.mono ?_
  cases X with
  | ok s =>
    rintro e w1 ⟨b1, rfl, g1⟩
    have G1 := Lib.hid g1
    clear g1
    go_wp2_with fail
    go_ret
    exact ⟨b1, rfl, G1.out⟩
  | error er =>
    rintro e w1 ⟨b1, h1⟩
    obtain rfl : e = .returned (.int .i64 er) := h1
    go_wp2_with fail
    go_ret
    exact ⟨b1, rfl⟩
/-- what the two steps come to -/
def encX (l : List TxV) : Except Int (List UInt8) := if l.length = 0 then .error 110 else if 30 < l.length then .error 51 else encTxs l
theorem encX_ne {l : List TxV} {e : Int} (h : encX l = .error e) : e ≠ 0 := by
  unfold encX at h
  split at h
  · injection h with h; omega
  · split at h
    · injection h with h; omega
    · rcases encTxs_err l e h with q | q <;> omega
theorem encBF_x (B : BlockV) : encBF B = match encX B.txs with
    | .ok s => (headB B.prev B.root B.nonce B.txs.length ++ s, 0)
    | .error e => ([], e) := by
  unfold encBF encX
  split
  · rfl
  · split <;> rfl
theorem encX_two (l : List TxV) : (mayI l.length ≠ 0 ∧ encX l = .error (mayI l.length)) ∨ (mayI l.length = 0 ∧ 0 < l.length ∧ l.length ≤ 30 ∧ encX l = encTxs l) := by
  unfold encX mayI
  by_cases h0 : l.length = 0
  · left
    rw [if_pos h0, if_pos h0]
    exact ⟨by decide, rfl⟩
  · rw [if_neg h0, if_neg h0]
    by_cases h1 : 30 < l.length
    · left
      rw [if_pos h1, if_pos h1]
      exact ⟨by decide, rfl⟩
    · right
      rw [if_neg h1, if_neg h1]
      exact ⟨rfl, by omega, by omega, rfl⟩
set_option maxRecDepth 20000 in
set_option maxHeartbeats 2000000 in
theorem tryE_any (B gn gw gb gf : Nat) (a : BkA) (w : World) (hB : B ≤ w.heap.size) (h : a.In w B) (h60 : a.txs.length ≤ 60) (hb : BldF B gw [] w) (hk : Blk w gb 27 a.cells.toArray)
    (hn : Blk w gn 49 #[.int .u64 a.txs.length]) (hf : Blk w gf 56 #[.func (.func 21) #[] #[.pointer (some ⟨gn, 0, none⟩)], .func (.func 23) #[] #[.pointer (some ⟨gw, 0, none⟩), .pointer (some ⟨gb, 0, none⟩)]]) :
    Calls Tryd.prog 20 #[.slice (some ⟨gf, 0, none⟩) 2 2] w (EndWr B gw w (encX (a.txs.map TxA.T))) := by
  have hc1 := e1_any gn a.txs.length (by omega) w hn
  have hc2 := e2_any B gw gb a w hB h h60 hb hk
  have HC1 := Lib.hid hc1
  have HC2 := Lib.hid hc2
  have KF := Lib.hid hf
  have c0 := hf.cell 0
  have c1 := hf.cell 1
  have h2 := encX_two (a.txs.map TxA.T)
  rw [List.length_map] at h2
  obtain ⟨z, hz⟩ : ∃ z, mayI a.txs.length = z := ⟨_, rfl⟩
  rw [hz] at HC1 h2
  clear hc1 hc2 hf hn hk hb h hz
  rcases h2 with ⟨h0, hx⟩ | ⟨rfl, _, _, hx⟩
  · rw [hx]
    have hd : (z == 0) = false := beq_eq_false_iff_ne.mpr h0
    clear h0 hx HC2
    go_enter Tryd.func20, Tryd.ntmps20
    go_wp2_with fail
    refine wp_loop_rounds 3 ?_
    rw [rounds_succ]
    go_wp2_with fail
    refine HC1.out.mono ?_
    rintro e w1 ⟨rfl, rfl⟩
    go_wp2_with fail
    go_ret
    exact ⟨Below.refl _ _, rfl⟩
  · rw [hx]
    obtain ⟨X, hX⟩ : ∃ X, encTxs (a.txs.map TxA.T) = X := ⟨_, rfl⟩
    have HE := Lib.hid (show ∀ er, X = .error er → er ≠ 0 from fun er h => by rcases encTxs_err _ _ (hX.trans h) with q | q <;> omega)
    rw [hX] at HC2 ⊢
    clear hX hx
    go_enter Tryd.func20, Tryd.ntmps20
    go_wp2_with fail
    refine wp_loop_rounds 3 ?_
    rw [rounds_succ]
    go_wp2_with fail
    refine HC1.out.mono ?_
    rintro e w1 ⟨rfl, rfl⟩
    go_wp2_with fail
    rw [rounds_succ]
    go_wp2_with fail
    refine HC2.out.mono ?_
    cases X with
    | error er =>
      have hd : (er == 0) = false := beq_eq_false_iff_ne.mpr (HE.out er rfl)
      rintro e w1 ⟨b1, h1⟩
      obtain rfl : e = .returned (.int .i64 er) := h1
      go_wp2_with fail
      go_ret
      exact ⟨b1, rfl⟩
    | ok s =>
      rintro e w1 ⟨b1, rfl, g1⟩
      have G1 := Lib.hid g1
      clear g1
      go_wp2_with fail
      rw [rounds_succ]
      go_wp2_with fail
      go_ret
      exact ⟨b1, rfl, G1.out⟩
theorem bput4_any (z : Nat) (w : World) :
    Calls Tryd.prog 26 #[.int .u64 z, .int .i64 4] w fun e w' => e = .returned (.string ⟨(putL z 4).toArray⟩) ∧ Below w.heap.size w w' := by
  have := cput_any z 4 w
  rwa [show putF z 4 = putL z 4 by simp [putF]] at this
/-- a region that draws, over a class of worlds -/
theorem wp_region_C {C : World → Prop} {P : Program} {id : Nat} {Q : Exit → Act → World → Prop} {a : Act} {w : World} {l : List Oper} (hm : P.follows .mixedOrders = true) (hB : Region.lexB .any l.toArray = true) (h0 : C w.drew)
    (h : wpQuiet P l.toArray C (fun a' => ∀ w', C w' → Q .normal a' w') l a) : (Code.region id l.toArray true).wp P Q a w :=
  wp_region_quiet (C := C) hm hB h0 (by simpa using h)
/-- what lies there while the bytes are put together -/
structure EC (w : World) (a : BkA) (s : List UInt8) (W : World) : Prop where
  below : Below w.heap.size w W
  b : Blk W w.heap.size 27 a.cells.toArray
  n : Blk W (w.heap.size + 1) 49 #[.int .u64 a.txs.length]
  g : BldF (w.heap.size + 1 + 1) (w.heap.size + 1 + 1) s W
theorem EC.call {w W W' : World} {a : BkA} {s : List UInt8} (h : EC w a s W) (hb : Below W.heap.size W W') : EC w a s W' :=
  ⟨h.below.trans (hb.mono h.below.size), below_blk hb h.b h.b.lt, below_blk hb h.n h.n.lt, bldF_below h.g hb⟩
theorem EC.drew {w W : World} {a : BkA} {s : List UInt8} (h : EC w a s W) : EC w a s W.drew := ⟨h.below.drew, h.b, h.n, h.g⟩
theorem EC.lt {w W : World} {a : BkA} {s : List UInt8} (h : EC w a s W) : w.heap.size + 1 + 1 ≤ W.heap.size := by obtain ⟨_, _, _, q⟩ := bldF_blk h.g; have := (Array.getElem?_eq_some_iff.1 q).1; omega
theorem EC.read {w W W' : World} {a : BkA} {s : List UInt8} (h : EC w a s W) (hg : BldF (w.heap.size + 1 + 1) (w.heap.size + 1 + 1) s W') (hb : Below (w.heap.size + 1 + 1) W W') (hk : Lib.OthersKept 5 (some (w.heap.size + 1 + 1)) W W') : EC w a s W' :=
  ⟨h.below.trans (hb.mono (by omega)), ok_blk hk h.b (by omega) (by decide), ok_blk hk h.n (by omega) (by decide), hg⟩
set_option maxRecDepth 20000 in
set_option maxHeartbeats 4000000 in
theorem bEnc_any (a : BkA) (w : World) (h : a.In w w.heap.size) (hM : a.txs.length ≤ 60) :
    Calls Tryd.prog 7 #[.agg a.cells.toArray] w fun e w' => e = .returned (encV (encBF a.B)) ∧ Below w.heap.size w w' := by
  have hB4 : Below w.heap.size w ((((w.alloc (.cells a.cells.toArray 27)).alloc (.cells #[.int .u64 a.txs.length] 49)).alloc (.cells #[.pointer none, .slice none 0 0] 53)).alloc (.cells #[.func (.func 21) #[] #[.pointer (some ⟨w.heap.size + 1, 0, none⟩)], .func (.func 23) #[] #[.pointer (some ⟨w.heap.size + 1 + 1, 0, none⟩), .pointer (some ⟨w.heap.size, 0, none⟩)]] 56)) := ((((Below.refl _ w).alloc (Nat.le_refl _) _).alloc (by simp) _).alloc (by simp; omega) _).alloc (by simp; omega) _
  have hc := tryE_any (w.heap.size + 1 + 1) (w.heap.size + 1) (w.heap.size + 1 + 1) (w.heap.size) (w.heap.size + 1 + 1 + 1) a ((((w.alloc (.cells a.cells.toArray 27)).alloc (.cells #[.int .u64 a.txs.length] 49)).alloc (.cells #[.pointer none, .slice none 0 0] 53)).alloc (.cells #[.func (.func 21) #[] #[.pointer (some ⟨w.heap.size + 1, 0, none⟩)], .func (.func 23) #[] #[.pointer (some ⟨w.heap.size + 1 + 1, 0, none⟩), .pointer (some ⟨w.heap.size, 0, none⟩)]] 56)) (by simp <;> omega) ((BkA.In.below h hB4).more (by omega)) hM
    (bldF_below (w := (((w.alloc (.cells a.cells.toArray 27)).alloc (.cells #[.int .u64 a.txs.length] 49)).alloc (.cells #[.pointer none, .slice none 0 0] 53))) (by have := bldF_fresh ((w.alloc (.cells a.cells.toArray 27)).alloc (.cells #[.int .u64 a.txs.length] 49)) rfl; simpa only [World.size_alloc] using this) ((Below.refl _ _).alloc (Nat.le_refl _) _))
    ((((Blk.new w 27 a.cells.toArray).alloc _).alloc _).alloc _) (by have := ((Blk.new (w.alloc (.cells a.cells.toArray 27)) 49 #[.int .u64 a.txs.length]).alloc (.cells #[.pointer none, .slice none 0 0] 53)).alloc (.cells #[.func (.func 21) #[] #[.pointer (some ⟨w.heap.size + 1, 0, none⟩)], .func (.func 23) #[] #[.pointer (some ⟨w.heap.size + 1 + 1, 0, none⟩), .pointer (some ⟨w.heap.size, 0, none⟩)]] 56); rwa [World.size_alloc] at this)
    (by have := Blk.new (((w.alloc (.cells a.cells.toArray 27)).alloc (.cells #[.int .u64 a.txs.length] 49)).alloc (.cells #[.pointer none, .slice none 0 0] 53)) 56 #[.func (.func 21) #[] #[.pointer (some ⟨w.heap.size + 1, 0, none⟩)], .func (.func 23) #[] #[.pointer (some ⟨w.heap.size + 1 + 1, 0, none⟩), .pointer (some ⟨w.heap.size, 0, none⟩)]]; simpa only [World.size_alloc] using this)
  have KB := Lib.hid (show Blk ((((w.alloc (.cells a.cells.toArray 27)).alloc (.cells #[.int .u64 a.txs.length] 49)).alloc (.cells #[.pointer none, .slice none 0 0] 53)).alloc (.cells #[.func (.func 21) #[] #[.pointer (some ⟨w.heap.size + 1, 0, none⟩)], .func (.func 23) #[] #[.pointer (some ⟨w.heap.size + 1 + 1, 0, none⟩), .pointer (some ⟨w.heap.size, 0, none⟩)]] 56)) w.heap.size 27 a.cells.toArray from (((Blk.new w 27 a.cells.toArray).alloc _).alloc _).alloc _)
  have KN := Lib.hid (show Blk ((((w.alloc (.cells a.cells.toArray 27)).alloc (.cells #[.int .u64 a.txs.length] 49)).alloc (.cells #[.pointer none, .slice none 0 0] 53)).alloc (.cells #[.func (.func 21) #[] #[.pointer (some ⟨w.heap.size + 1, 0, none⟩)], .func (.func 23) #[] #[.pointer (some ⟨w.heap.size + 1 + 1, 0, none⟩), .pointer (some ⟨w.heap.size, 0, none⟩)]] 56)) (w.heap.size + 1) 49 #[.int .u64 a.txs.length] from by have := ((Blk.new (w.alloc (.cells a.cells.toArray 27)) 49 #[.int .u64 a.txs.length]).alloc (.cells #[.pointer none, .slice none 0 0] 53)).alloc (.cells #[.func (.func 21) #[] #[.pointer (some ⟨w.heap.size + 1, 0, none⟩)], .func (.func 23) #[] #[.pointer (some ⟨w.heap.size + 1 + 1, 0, none⟩), .pointer (some ⟨w.heap.size, 0, none⟩)]] 56); rwa [World.size_alloc] at this)
  have c3 := BkA.c3 (RowC.of_blk (Blk.new w 27 a.cells.toArray))
  have hw : IntKind.u64.wrap (a.txs.length : Int) = (a.txs.length : Int) := by rw [IntKind.wrap_u64]; omega
  have hx := encBF_x a.B
  rw [show a.B.txs = a.txs.map TxA.T from rfl] at hx
  obtain ⟨X, hX⟩ : ∃ X, encX (a.txs.map TxA.T) = X := ⟨_, rfl⟩
  have HX := Lib.hid hX
  rw [hX] at hx hc
  have HC := Lib.hid hc
  have HB4 := Lib.hid hB4
  rw [hx]
  clear hX hx hc h hB4
  cases X with
  | error er =>
    have hd : (er == 0) = false := beq_eq_false_iff_ne.mpr (encX_ne HX.out)
    unfold encV
    go_enter Tryd.func7, Tryd.ntmps7
    go_wp2_with fail
    refine HC.out.mono ?_
    rintro e w1 ⟨b1, h1⟩
    obtain rfl : e = .returned (.int .i64 er) := h1
    go_wp2_with fail
    go_ret2
    exact ⟨rfl, HB4.out.trans (b1.mono (by omega))⟩
  | ok s =>
    have hok := encBF_x a.B
    rw [show a.B.txs = a.txs.map TxA.T from rfl, HX.out] at hok
    have hln : (a.txs.map TxA.T).length = a.txs.length := List.length_map _
    have hs6 : s.length ≤ 6000 * 30 := by
      rcases encX_two (a.txs.map TxA.T) with ⟨_, q⟩ | ⟨_, _, h30, q⟩
      · rw [HX.out] at q; cases q
      · rw [HX.out] at q
        have := encTxs_six _ s q.symm
        omega
    obtain ⟨P, hP⟩ : ∃ P, a.prev.1 ++ (a.root.1 ++ (putL a.nonce.1.toNat 4 ++ cmpL a.txs.length)) = P := ⟨_, rfl⟩
    rw [show headB a.B.prev a.B.root a.B.nonce (a.txs.map TxA.T).length = P by rw [← hP, hln]; rfl]
    have hPL : P.length ≤ 77 := by rw [← hP]; simp only [List.length_append, a.prev.2, a.root.2, putL_len]; have := cmpL_le a.txs.length; omega
    obtain ⟨z, hz⟩ : ∃ z : Nat, a.nonce.1.toNat = z := ⟨_, rfl⟩
    rw [hz] at hP
    have hcz : IntKind.u64.wrap a.nonce.1 = (z : Int) := by have := wf_u32.1 a.nonce.2; rw [IntKind.wrap_u64]; omega
    have ha1 : ∀ V, (Op.stringOp .add ⟨(a.prev.1).toArray⟩ ⟨(a.root.1).toArray⟩).run Tryd.prog V = .ok (.string ⟨(a.prev.1 ++ a.root.1).toArray⟩) V := fun V => run_string_add_lists V _ _ (by rw [a.prev.2]; omega) (by rw [a.root.2]; omega)
    have ha2 : ∀ V, (Op.stringOp .add ⟨(a.prev.1 ++ a.root.1).toArray⟩ ⟨(putL z 4).toArray⟩).run Tryd.prog V = .ok (.string ⟨(a.prev.1 ++ (a.root.1 ++ putL z 4)).toArray⟩) V := fun V => (run_string_add_lists V _ _ (by rw [List.length_append, a.prev.2, a.root.2]; omega) (by rw [putL_len]; omega)).trans (by rw [List.append_assoc])
    have ha3 : ∀ V, (Op.stringOp .add ⟨(a.prev.1 ++ (a.root.1 ++ putL z 4)).toArray⟩ ⟨(cmpL a.txs.length).toArray⟩).run Tryd.prog V = .ok (.string ⟨P.toArray⟩) V := fun V => (run_string_add_lists V _ _ (by rw [List.length_append, List.length_append, a.prev.2, a.root.2, putL_len]; omega) (by have := cmpL_le a.txs.length; omega)).trans (by rw [← hP]; simp only [List.append_assoc])
    have ha4 : ∀ V, (Op.stringOp .add ⟨P.toArray⟩ ⟨s.toArray⟩).run Tryd.prog V = .ok (.string ⟨(P ++ s).toArray⟩) V := fun V => run_string_add_lists V _ _ (by omega) (by omega)
    unfold encV
    clear hP hz hln hok hPL hs6
    go_enter Tryd.func7, Tryd.ntmps7
    go_wp2_with fail
    refine HC.out.mono ?_
    rintro e w1 ⟨b1, rfl, g1⟩
    have E1 := Lib.hid (show EC w a s w1 from ⟨HB4.out.trans (b1.mono (by omega)), (b1.block _ (by omega)).trans KB.out, (b1.block _ (by omega)).trans KN.out, g1⟩)
    clear b1 g1 HC KB KN HB4 c3 hw
    go_wp2_with fail
    refine wp_region_C (C := EC w a s) (by kernel_rfl) (by kernel_rfl) E1.out.drew ?_
    repeat (first
      | go_big_quiet_skip
      | ((with_reducible refine at_qload 18 ?_); refine tyKy.wpQuiet_load (by rfl) (.tmp 18) rfl w.heap.size 0 rfl a.prev (fun W hC => BkA.c0 (RowC.of_blk hC.b)) ?_; simp only [Act.put, List.setIfInBounds_toArray, List.set_cons_succ, List.set_cons_zero])
      | ((with_reducible refine at_qload 21 ?_); refine tyKy.wpQuiet_load (by rfl) (.tmp 21) rfl w.heap.size 32 rfl a.root (fun W hC => BkA.c1 (RowC.of_blk hC.b)) ?_; simp only [Act.put, List.setIfInBounds_toArray, List.set_cons_succ, List.set_cons_zero])
      | ((with_reducible refine at_qload 25 ?_); refine wpQuiet_load_one (by rfl) 24 (.tmp 25) rfl ⟨w.heap.size, 64, none⟩ rfl _ Tryd.isAgg24 (fun W hC => BkA.c2 (RowC.of_blk hC.b)) ?_; simp only [Act.put, List.setIfInBounds_toArray, List.set_cons_succ, List.set_cons_zero])
      | ((with_reducible refine at_qload 4 ?_); refine wpQuiet_load_one (by rfl) 49 (.tmp 4) rfl ⟨w.heap.size + 1, 0, none⟩ rfl (.int .u64 a.txs.length) Tryd.isAgg49 (fun W hC => hC.n.cell 0) ?_; simp only [Act.put, List.setIfInBounds_toArray, List.set_cons_succ, List.set_cons_zero])
      | (go_big_quiet_want; go_big_quiet_op; refine ⟨_, fun _ _ => by with_reducible rfl, ?_⟩; go_big_quiet_on)
      | go_big_quiet_step ((intro hC; first
          | (go_at_call 25; with_reducible exact (bytesK_any a.prev _).mono fun _ _ h => ⟨h.1, hC.call h.2⟩)
          | (go_at_call 25; with_reducible exact (bytesK_any a.root _).mono fun _ _ h => ⟨h.1, hC.call h.2⟩)
          | (go_at_call 26; with_reducible exact (bput4_any z _).mono fun _ _ h => ⟨h.1, hC.call h.2⟩)
          | (go_at_call 27; with_reducible exact (ccompact_any a.txs.length _).mono fun _ _ h => ⟨h.1, hC.call h.2⟩)
          | (go_at_call 28; with_reducible exact (bldr_any (w.heap.size + 1 + 1) (w.heap.size + 1 + 1) s _ hC.g hC.lt).mono fun _ _ h => ⟨h.1, hC.read h.2.1 h.2.2.1 h.2.2.2⟩)
          | fail)))
    refine wpQuiet_nil ?_
    intro w9 hC
    have E9 := Lib.hid hC
    clear hC ha1 ha2 ha3 ha4 hcz
    go_wp2_with fail
    go_ret2
    exact ⟨rfl, E9.out.below⟩
theorem encB_ok : EncBOk := fun a w h hM => bEnc_any a w h (by have := hM.1; rw [show a.B.txs.length = a.txs.length from List.length_map _] at this; exact this)
end Go.Proofs.YthpnmmilioonhaaDoor
