import Derived.Lib.ReflectliteSwap
import Derived.Lib.ReflectliteSlice
import Derived.Laws.Externs
import Derived.LoopN
import Derived.Deep.RegionHeld
import Derived.Test.YtnpmpeoojncjhaaGreatDoorZQe
set_option maxRecDepth 100000
set_option maxHeartbeats 16000000
namespace Go.Proofs.YtnpmpeoojncjhaaGreatDoor
section
open Go.RowKit
def qf (n : Nat) : Int := if n = 0 then 110 else if 30 < n then 51 else 0
theorem VG (gn n : Nat) (hn : n ≤ 1000000000) (w : World) (h : ax w gn 48 #[.int .u64 n]) :
 Calls Tryz.prog 41 #[.pointer (some ⟨gn, 0, none⟩)] w fun e w' => e = .returned (.int .i64 (qf n)) ∧ w' = w := by
 have c := h.cell 0
 have hc : ∀ w, Calls Tryz.prog 42 #[.int .u64 n] w fun e w' => e = .returned (.int .i64 (qf n)) ∧ w' = w := fun w => Fy n (by omega) w
 obtain ⟨z, hz⟩ : ∃ z, qf n = z := ⟨_, rfl⟩
 rw [hz] at hc ⊢
 have HC := qh hc
 clear hc hz
 go_enter Tryz.func41, Tryz.ntmps41
 go_wp2_with fail
 refine (HC.out _).mono ?_
 rintro e w1 ⟨rfl, rfl⟩
 go_wp2_with fail
 go_ret
 exact ⟨rfl, rfl⟩
theorem VF (B gw gb : Nat) (a : bF) (w : World) (hB : B ≤ w.heap.size) (h : a.In w B) (ZA : a.bG.length ≤ 60) (hb : oZ B gw [] w) (hk : ax w gb 70 a.cells.toArray) :
 Calls Tryz.prog 43 #[.pointer (some ⟨gw, 0, none⟩), .pointer (some ⟨gb, 0, none⟩)] w (QL B gw w (dG (a.bG.map aY.T))) := by
 have hc := callsIn_wide.1 (Db B gw a w hB h ZA hb)
 obtain ⟨X, hX⟩ : ∃ X, dG (a.bG.map aY.T) = X := ⟨_, rfl⟩
 rw [hX] at hc ⊢
 clear hX
 have KK := qh hk
 have HC := qh hc
 clear hk hc h hb
 go_enter Tryz.func43, Tryz.ntmps43
 go_wp2_with ((with_reducible refine az 1 ?_); refine fe.af rfl (.tmp 1) rfl gb 0 rfl a (au.ah KK.out) ?_)
 refine HC.out.mono ?_
 cases X with
 | ok s =>
  rintro e w1 ⟨b1, rfl, g1⟩
  have G1 := qh g1
  clear g1
  go_wp2_with fail
  go_ret
  exact ⟨b1, rfl, G1.out⟩
 | error er =>
  rintro e w1 ⟨b1, h1⟩
  obtain rfl : e = .returned (.int .i64 er) := h1
  go_wp2_with fail
  go_ret
  exact ⟨b1, rfl⟩
def Cu (l : List dX) : Except Int (List UInt8) := if l.length = 0 then .error 110 else if 30 < l.length then .error 51 else dG l
theorem Tq {l : List dX} {e : Int} (h : Cu l = .error e) : e ≠ 0 := by
 unfold Cu at h
 split at h
 ·injection h with h; omega
 ·split at h
  ·injection h with h; omega
  ·rcases oK l e h with q | q <;> omega
theorem I7 (B : bK) : gX B = match Cu B.bG with
 | .ok s => (I1 B.prev B.root B.iR B.bG.length ++ s, 0)
 | .error e => ([], e) := by
 unfold gX Cu
 split
 ·rfl
 ·split <;> rfl
theorem E8 (l : List dX) : (qf l.length ≠ 0 ∧ Cu l = .error (qf l.length)) ∨ (qf l.length = 0 ∧ 0 < l.length ∧ l.length ≤ 30 ∧ Cu l = dG l) := by
 unfold Cu qf
 by_cases h0 : l.length = 0
 ·left
  rw [if_pos h0, if_pos h0]
  exact ⟨by decide, rfl⟩
 ·rw [if_neg h0, if_neg h0]
  by_cases h1 : 30 < l.length
  ·left
   rw [if_pos h1, if_pos h1]
   exact ⟨by decide, rfl⟩
  ·right
   rw [if_neg h1, if_neg h1]
   exact ⟨rfl, by omega, by omega, rfl⟩
theorem Ml (B gn gw gb gf : Nat) (a : bF) (w : World) (hB : B ≤ w.heap.size) (h : a.In w B) (ZA : a.bG.length ≤ 60) (hb : oZ B gw [] w) (hk : ax w gb 70 a.cells.toArray)
 (hn : ax w gn 48 #[.int .u64 a.bG.length]) (hf : ax w gf 100 #[.func (.func 41) #[] #[.pointer (some ⟨gn, 0, none⟩)], .func (.func 43) #[] #[.pointer (some ⟨gw, 0, none⟩), .pointer (some ⟨gb, 0, none⟩)]]) :
 Calls Tryz.prog 40 #[.slice (some ⟨gf, 0, none⟩) 2 2] w (QL B gw w (Cu (a.bG.map aY.T))) := by
 have hc1 := VG gn a.bG.length (by omega) w hn
 have hc2 := VF B gw gb a w hB h ZA hb hk
 have Ub := qh hc1
 have HC2 := qh hc2
 have KF := qh hf
 have c0 := hf.cell 0
 have c1 := hf.cell 1
 have h2 := E8 (a.bG.map aY.T)
 rw [List.length_map] at h2
 obtain ⟨z, hz⟩ : ∃ z, qf a.bG.length = z := ⟨_, rfl⟩
 rw [hz] at Ub h2
 clear hc1 hc2 hf hn hk hb h hz
 rcases h2 with ⟨h0, hx⟩ | ⟨rfl, _, _, hx⟩
 ·rw [hx]
  have hd : (z == 0) = false := beq_eq_false_iff_ne.mpr h0
  clear h0 hx HC2
  go_enter Tryz.func40, Tryz.ntmps40
  go_wp2_with fail
  refine wp_loop_rounds 3 ?_
  rw [rounds_succ]
  go_wp2_with fail
  refine Ub.out.mono ?_
  rintro e w1 ⟨rfl, rfl⟩
  go_wp2_with fail
  go_ret
  exact ⟨Below.refl _ _, rfl⟩
 ·rw [hx]
  obtain ⟨X, hX⟩ : ∃ X, dG (a.bG.map aY.T) = X := ⟨_, rfl⟩
  have HE := qh (show ∀ er, X = .error er → er ≠ 0 from fun er h => by rcases oK _ _ (hX.trans h) with q | q <;> omega)
  rw [hX] at HC2 ⊢
  clear hX hx
  go_enter Tryz.func40, Tryz.ntmps40
  go_wp2_with fail
  refine wp_loop_rounds 3 ?_
  rw [rounds_succ]
  go_wp2_with fail
  refine Ub.out.mono ?_
  rintro e w1 ⟨rfl, rfl⟩
  go_wp2_with fail
  rw [rounds_succ]
  go_wp2_with fail
  refine HC2.out.mono ?_
  cases X with
  | error er =>
   have hd : (er == 0) = false := beq_eq_false_iff_ne.mpr (HE.out er rfl)
   rintro e w1 ⟨b1, h1⟩
   obtain rfl : e = .returned (.int .i64 er) := h1
   go_wp2_with fail
   go_ret
   exact ⟨b1, rfl⟩
  | ok s =>
   rintro e w1 ⟨b1, rfl, g1⟩
   have G1 := qh g1
   clear g1
   go_wp2_with fail
   rw [rounds_succ]
   go_wp2_with fail
   go_ret
   exact ⟨b1, rfl, G1.out⟩
theorem Lx (z : Nat) (w : World) :
 Calls Tryz.prog 46 #[.int .u64 z, .int .i64 4] w fun e w' => e = .returned (.string ⟨(bD z 4).toArray⟩) ∧ Below w.heap.size w w' := by
 have := nN z 4 w
 rwa [show kL z 4 = bD z 4 by simp [kL]] at this
theorem Dc {C : World → Prop} {P : Program} {id : Nat} {Q : Exit → Act → World → Prop} {a : Act} {w : World} {l : List Oper} (hm : P.follows .mixedOrders = true) (hB : Region.lexB .any l.toArray = true) (h0 : C w.drew)
 (h : wpQuiet P l.toArray C (fun a' => ∀ w', C w' → Q .normal a' w') l a) : (Code.region id l.toArray true).wp P Q a w :=
 wp_region_quiet (C := C) hm hB h0 (by simpa using h)
structure EC (w : World) (a : bF) (s : List UInt8) (W : World) : Prop where
 below : Below w.heap.size w W
 b : ax W w.heap.size 70 a.cells.toArray
 n : ax W (w.heap.size + 1) 48 #[.int .u64 a.bG.length]
 g : oZ (w.heap.size + 1 + 1) (w.heap.size + 1 + 1) s W
theorem EC.call {w W W' : World} {a : bF} {s : List UInt8} (h : EC w a s W) (hb : Below W.heap.size W W') : EC w a s W' :=
 ⟨h.below.trans (hb.mono h.below.size), aa hb h.b h.b.lt, aa hb h.n h.n.lt, lX h.g hb⟩
theorem EC.drew {w W : World} {a : bF} {s : List UInt8} (h : EC w a s W) : EC w a s W.drew := ⟨h.below.drew, h.b, h.n, h.g⟩
theorem EC.lt {w W : World} {a : bF} {s : List UInt8} (h : EC w a s W) : w.heap.size + 1 + 1 ≤ W.heap.size := by obtain ⟨_, _, _, q⟩ := zm h.g; have := (Array.getElem?_eq_some_iff.1 q).1; omega
theorem EC.read {w W W' : World} {a : bF} {s : List UInt8} (h : EC w a s W) (hg : oZ (w.heap.size + 1 + 1) (w.heap.size + 1 + 1) s W') (hb : Below (w.heap.size + 1 + 1) W W') (hk : Lib.OthersKept 5 (some (w.heap.size + 1 + 1)) W W') : EC w a s W' :=
 ⟨h.below.trans (hb.mono (by omega)), Ci hk h.b (by omega) (by decide), Ci hk h.n (by omega) (by decide), hg⟩
theorem FE (a : bF) (w : World) (h : a.In w w.heap.size) (hM : a.bG.length ≤ 60) :
 Calls Tryz.prog 26 #[.agg a.cells.toArray] w fun e w' => e = .returned (q9 (gX a.B)) ∧ Below w.heap.size w w' := by
 have hB4 : Below w.heap.size w ((((w.alloc (.cells a.cells.toArray 70)).alloc (.cells #[.int .u64 a.bG.length] 48)).alloc (.cells #[.pointer none, .slice none 0 0] 97)).alloc (.cells #[.func (.func 41) #[] #[.pointer (some ⟨w.heap.size + 1, 0, none⟩)], .func (.func 43) #[] #[.pointer (some ⟨w.heap.size + 1 + 1, 0, none⟩), .pointer (some ⟨w.heap.size, 0, none⟩)]] 100)) := ((((Below.refl _ w).alloc (Nat.le_refl _) _).alloc (by simp) _).alloc (by simp; omega) _).alloc (by simp; omega) _
 have hc := Ml (w.heap.size + 1 + 1) (w.heap.size + 1) (w.heap.size + 1 + 1) (w.heap.size) (w.heap.size + 1 + 1 + 1) a ((((w.alloc (.cells a.cells.toArray 70)).alloc (.cells #[.int .u64 a.bG.length] 48)).alloc (.cells #[.pointer none, .slice none 0 0] 97)).alloc (.cells #[.func (.func 41) #[] #[.pointer (some ⟨w.heap.size + 1, 0, none⟩)], .func (.func 43) #[] #[.pointer (some ⟨w.heap.size + 1 + 1, 0, none⟩), .pointer (some ⟨w.heap.size, 0, none⟩)]] 100)) (by simp <;> omega) ((bF.In.below h hB4).more (by omega)) hM
  (lX (w := (((w.alloc (.cells a.cells.toArray 70)).alloc (.cells #[.int .u64 a.bG.length] 48)).alloc (.cells #[.pointer none, .slice none 0 0] 97))) (by have := Ia ((w.alloc (.cells a.cells.toArray 70)).alloc (.cells #[.int .u64 a.bG.length] 48)) rfl; simpa only [World.size_alloc] using this) ((Below.refl _ _).alloc (Nat.le_refl _) _))
  ((((ax.new w 70 a.cells.toArray).alloc _).alloc _).alloc _) (by have := ((ax.new (w.alloc (.cells a.cells.toArray 70)) 48 #[.int .u64 a.bG.length]).alloc (.cells #[.pointer none, .slice none 0 0] 97)).alloc (.cells #[.func (.func 41) #[] #[.pointer (some ⟨w.heap.size + 1, 0, none⟩)], .func (.func 43) #[] #[.pointer (some ⟨w.heap.size + 1 + 1, 0, none⟩), .pointer (some ⟨w.heap.size, 0, none⟩)]] 100); rwa [World.size_alloc] at this)
  (by have := ax.new (((w.alloc (.cells a.cells.toArray 70)).alloc (.cells #[.int .u64 a.bG.length] 48)).alloc (.cells #[.pointer none, .slice none 0 0] 97)) 100 #[.func (.func 41) #[] #[.pointer (some ⟨w.heap.size + 1, 0, none⟩)], .func (.func 43) #[] #[.pointer (some ⟨w.heap.size + 1 + 1, 0, none⟩), .pointer (some ⟨w.heap.size, 0, none⟩)]]; simpa only [World.size_alloc] using this)
 have KB := qh (show ax ((((w.alloc (.cells a.cells.toArray 70)).alloc (.cells #[.int .u64 a.bG.length] 48)).alloc (.cells #[.pointer none, .slice none 0 0] 97)).alloc (.cells #[.func (.func 41) #[] #[.pointer (some ⟨w.heap.size + 1, 0, none⟩)], .func (.func 43) #[] #[.pointer (some ⟨w.heap.size + 1 + 1, 0, none⟩), .pointer (some ⟨w.heap.size, 0, none⟩)]] 100)) w.heap.size 70 a.cells.toArray from (((ax.new w 70 a.cells.toArray).alloc _).alloc _).alloc _)
 have KN := qh (show ax ((((w.alloc (.cells a.cells.toArray 70)).alloc (.cells #[.int .u64 a.bG.length] 48)).alloc (.cells #[.pointer none, .slice none 0 0] 97)).alloc (.cells #[.func (.func 41) #[] #[.pointer (some ⟨w.heap.size + 1, 0, none⟩)], .func (.func 43) #[] #[.pointer (some ⟨w.heap.size + 1 + 1, 0, none⟩), .pointer (some ⟨w.heap.size, 0, none⟩)]] 100)) (w.heap.size + 1) 48 #[.int .u64 a.bG.length] from by have := ((ax.new (w.alloc (.cells a.cells.toArray 70)) 48 #[.int .u64 a.bG.length]).alloc (.cells #[.pointer none, .slice none 0 0] 97)).alloc (.cells #[.func (.func 41) #[] #[.pointer (some ⟨w.heap.size + 1, 0, none⟩)], .func (.func 43) #[] #[.pointer (some ⟨w.heap.size + 1 + 1, 0, none⟩), .pointer (some ⟨w.heap.size, 0, none⟩)]] 100); rwa [World.size_alloc] at this)
 have c3 := bF.c3 (au.ah (ax.new w 70 a.cells.toArray))
 have hw : IntKind.u64.wrap (a.bG.length : Int) = (a.bG.length : Int) := by rw [IntKind.wrap_u64]; omega
 have hx := I7 a.B
 rw [show a.B.bG = a.bG.map aY.T from rfl] at hx
 obtain ⟨X, hX⟩ : ∃ X, Cu (a.bG.map aY.T) = X := ⟨_, rfl⟩
 have HX := qh hX
 rw [hX] at hx hc
 have HC := qh hc
 have WX := qh hB4
 rw [hx]
 clear hX hx hc h hB4
 cases X with
 | error er =>
  have hd : (er == 0) = false := beq_eq_false_iff_ne.mpr (Tq HX.out)
  unfold q9
  go_enter Tryz.func26, Tryz.ntmps26
  go_wp2_with fail
  refine HC.out.mono ?_
  rintro e w1 ⟨b1, h1⟩
  obtain rfl : e = .returned (.int .i64 er) := h1
  go_wp2_with fail
  go_ret2
  exact ⟨rfl, WX.out.trans (b1.mono (by omega))⟩
 | ok s =>
  have hok := I7 a.B
  rw [show a.B.bG = a.bG.map aY.T from rfl, HX.out] at hok
  have hln : (a.bG.map aY.T).length = a.bG.length := List.length_map _
  have hs6 : s.length ≤ 6000 * 30 := by
   rcases E8 (a.bG.map aY.T) with ⟨_, q⟩ | ⟨_, _, h30, q⟩
   ·rw [HX.out] at q; cases q
   ·rw [HX.out] at q
    have := sK _ s q.symm
    omega
  obtain ⟨P, hP⟩ : ∃ P, a.prev.1 ++ (a.root.1 ++ (bD a.iR.1.toNat 4 ++ cmpL a.bG.length)) = P := ⟨_, rfl⟩
  rw [show I1 a.B.prev a.B.root a.B.iR (a.bG.map aY.T).length = P by rw [← hP, hln]; rfl]
  have hPL : P.length ≤ 77 := by rw [← hP]; simp only [List.length_append, a.prev.2, a.root.2, bQ]; have := jS a.bG.length; omega
  obtain ⟨z, hz⟩ : ∃ z : Nat, a.iR.1.toNat = z := ⟨_, rfl⟩
  rw [hz] at hP
  have hcz : IntKind.u64.wrap a.iR.1 = (z : Int) := by have := wf_u32.1 a.iR.2; rw [IntKind.wrap_u64]; omega
  have ha1 : ∀ V, (Op.stringOp .add ⟨(a.prev.1).toArray⟩ ⟨(a.root.1).toArray⟩).run Tryz.prog V = .ok (.string ⟨(a.prev.1 ++ a.root.1).toArray⟩) V := fun V => run_string_add_lists V _ _ (by rw [a.prev.2]; omega) (by rw [a.root.2]; omega)
  have ha2 : ∀ V, (Op.stringOp .add ⟨(a.prev.1 ++ a.root.1).toArray⟩ ⟨(bD z 4).toArray⟩).run Tryz.prog V = .ok (.string ⟨(a.prev.1 ++ (a.root.1 ++ bD z 4)).toArray⟩) V := fun V => (run_string_add_lists V _ _ (by rw [List.length_append, a.prev.2, a.root.2]; omega) (by rw [bQ]; omega)).trans (by rw [List.append_assoc])
  have ha3 : ∀ V, (Op.stringOp .add ⟨(a.prev.1 ++ (a.root.1 ++ bD z 4)).toArray⟩ ⟨(cmpL a.bG.length).toArray⟩).run Tryz.prog V = .ok (.string ⟨P.toArray⟩) V := fun V => (run_string_add_lists V _ _ (by rw [List.length_append, List.length_append, a.prev.2, a.root.2, bQ]; omega) (by have := jS a.bG.length; omega)).trans (by rw [← hP]; simp only [List.append_assoc])
  have ha4 : ∀ V, (Op.stringOp .add ⟨P.toArray⟩ ⟨s.toArray⟩).run Tryz.prog V = .ok (.string ⟨(P ++ s).toArray⟩) V := fun V => run_string_add_lists V _ _ (by omega) (by omega)
  unfold q9
  clear hP hz hln hok hPL hs6
  go_enter Tryz.func26, Tryz.ntmps26
  go_wp2_with fail
  refine HC.out.mono ?_
  rintro e w1 ⟨b1, rfl, g1⟩
  have E1 := qh (show EC w a s w1 from ⟨WX.out.trans (b1.mono (by omega)), (b1.block _ (by omega)).trans KB.out, (b1.block _ (by omega)).trans KN.out, g1⟩)
  clear b1 g1 HC KB KN WX c3 hw
  go_wp2_with fail
  refine Dc (C := EC w a s) (by kernel_rfl) (by kernel_rfl) E1.out.drew ?_
  repeat (first
   | go_big_quiet_skip
   | ((with_reducible refine bI 18 ?_); refine eH.gM (by rfl) (.tmp 18) rfl w.heap.size 0 rfl a.prev (fun W hC => bF.c0 (au.ah hC.b)) ?_; simp only [Act.put, List.setIfInBounds_toArray, List.set_cons_succ, List.set_cons_zero])
   | ((with_reducible refine bI 21 ?_); refine eH.gM (by rfl) (.tmp 21) rfl w.heap.size 32 rfl a.root (fun W hC => bF.c1 (au.ah hC.b)) ?_; simp only [Act.put, List.setIfInBounds_toArray, List.set_cons_succ, List.set_cons_zero])
   | ((with_reducible refine bI 25 ?_); refine aN (by rfl) 24 (.tmp 25) rfl ⟨w.heap.size, 64, none⟩ rfl _ Tryz.isAgg24 (fun W hC => bF.c2 (au.ah hC.b)) ?_; simp only [Act.put, List.setIfInBounds_toArray, List.set_cons_succ, List.set_cons_zero])
   | ((with_reducible refine bI 4 ?_); refine aN (by rfl) 48 (.tmp 4) rfl ⟨w.heap.size + 1, 0, none⟩ rfl (.int .u64 a.bG.length) Tryz.isAgg48 (fun W hC => hC.n.cell 0) ?_; simp only [Act.put, List.setIfInBounds_toArray, List.set_cons_succ, List.set_cons_zero])
   | (go_big_quiet_want; go_big_quiet_op; refine ⟨_, fun _ _ => by with_reducible rfl, ?_⟩; go_big_quiet_on)
   | go_big_quiet_step ((intro hC; first
    | (go_at_call 45; with_reducible exact (jI a.prev _).mono fun _ _ h => ⟨h.1, hC.call h.2⟩)
    | (go_at_call 45; with_reducible exact (jI a.root _).mono fun _ _ h => ⟨h.1, hC.call h.2⟩)
    | (go_at_call 46; with_reducible exact (Lx z _).mono fun _ _ h => ⟨h.1, hC.call h.2⟩)
    | (go_at_call 47; with_reducible exact (kW a.bG.length _).mono fun _ _ h => ⟨h.1, hC.call h.2⟩)
    | (go_at_call 48; with_reducible exact (Qo (w.heap.size + 1 + 1) (w.heap.size + 1 + 1) s _ hC.g hC.lt).mono fun _ _ h => ⟨h.1, hC.read h.2.1 h.2.2.1 h.2.2.2⟩)
    | fail)))
  refine wpQuiet_nil ?_
  intro w9 hC
  have E9 := qh hC
  clear hC ha1 ha2 ha3 ha4 hcz
  go_wp2_with fail
  go_ret2
  exact ⟨rfl, E9.out.below⟩
theorem Cw : Wy := fun a w h hM => FE a w h (by have := hM.1; rw [show a.B.bG.length = a.bG.length from List.length_map _] at this; exact this)
end
section
open Go.RowKit
theorem TK (a : bF) (w : World) (h : a.In w w.heap.size) (hM : QE a.B) (hR : aM w) :
 Calls Tryz.prog 215 #[.agg a.cells.toArray] w fun e w' => e = .returned (XL (qY a.B)) ∧ Below w.heap.size w w' := by
 have HB := qh (fun c => (show au ((w.alloc (.cells a.cells.toArray 70)).alloc (.cells c 26)) w.heap.size 0 a.cells from au.ah ((ax.new _ _ _).alloc _)))
 have HI := qh (fun c => (show a.In ((w.alloc (.cells a.cells.toArray 70)).alloc (.cells c 26)) _ from bF.In.on h (((Below.refl _ _).alloc (Nat.le_refl _) _).alloc (by simp) _) (Nat.le_refl _)))
 have l0 := hR.sH
 have l1 := hR.qL
 have HR := qh hR
 have HM := qh hM
 clear h hR hM
 rcases yP a.B with ⟨hok, he, hi⟩ | ⟨er, h0, he, hi⟩
 ·rw [hi]
  have hD : ∀ w, aM w → Calls Tryz.prog 33 #[.string ⟨(nu a.B).toArray⟩] w fun e w' => e = .returned (.agg (ay (ng (nu a.B)))) ∧ Below w.heap.size w w' := (fun w h => sO ⟨(nu a.B).toArray⟩ (by rw [gG]; have := TG hok; omega) w h)
  have HD := qh hD
  have HE := qh he
  clear hD hok he hi
  go_enter Tryz.func215, Tryz.ntmps215
  go_wp2_with ((with_reducible refine az 1 ?_); refine fe.af rfl (.tmp 1) rfl w.heap.size 0 rfl a (HB.out _) ?_)
  refine (Cw a _ (HI.out _) HM.out).mono ?_
  rintro e w1 ⟨rfl, b1⟩
  have B1 := qh ((((Below.refl w.heap.size w).alloc (Nat.le_refl _) _).alloc (by simp) _).trans (b1.mono (by simp; omega)))
  have K2 := qh (aa b1 (bg (g := w.heap.size + 1) (w := w.alloc (.cells a.cells.toArray 70)) 26 _ (by simp)) (by simp))
  rw [HE.out]
  clear b1 HB HI
  unfold q9
  go_wp2_with fail
  refine (HD.out _ (HR.out.below B1.out l0 l1)).mono ?_
  rintro e w2 ⟨rfl, b2⟩
  have K3 := qh (aa b2 K2.out K2.out.lt)
  have B2 := qh (B1.out.trans (b2.mono B1.out.size))
  clear b2 HD K2 B1
  go_wp2_with ((with_reducible refine ag 2 16 ?_); refine aG rfl 26 (.tmp 2) (.tmp 16) rfl rfl (w.heap.size + 1) (ay (ng (nu a.B))) rfl rfl 26 _ K3.out (xO _ (iW _)) (by rw [aO, iW]; rfl) (dK _) ?_; intro w3 o3 b3)
  refine bodyPost_ret (bn rfl _ _ (w.heap.size + 1) 26 _ (0, 0) _ rfl b3 Tryz.underlying26 rfl (xO _ (iW _))) rfl ⟨?_, B2.out.trans (o3.below (by simp))⟩
  unfold XL
  rw [dQ]
  rfl
 ·rw [hi]
  have hd : (er == 0) = false := beq_eq_false_iff_ne.mpr h0
  have HE := qh he
  clear he hi h0
  go_enter Tryz.func215, Tryz.ntmps215
  go_wp2_with ((with_reducible refine az 1 ?_); refine fe.af rfl (.tmp 1) rfl w.heap.size 0 rfl a (HB.out _) ?_)
  refine (Cw a _ (HI.out _) HM.out).mono ?_
  rintro e w1 ⟨rfl, b1⟩
  have B1 := qh ((((Below.refl w.heap.size w).alloc (Nat.le_refl _) _).alloc (by simp) _).trans (b1.mono (by simp; omega)))
  have K2 := qh (aa b1 (bg (g := w.heap.size + 1) (w := w.alloc (.cells a.cells.toArray 70)) 26 _ (by simp)) (by simp))
  rw [HE.out]
  clear b1 HB HI
  unfold q9
  go_wp2_with ((with_reducible refine ag 2 13 ?_); refine aG rfl 26 (.tmp 2) (.tmp 13) rfl rfl (w.heap.size + 1) (ak ai).toArray rfl (congrArg Value.agg vJ) 26 _ K2.out (eH.oU _) (by rw [eH.arr]; rfl) (eH.zq _) ?_; intro w3 o3 b3)
  exact bodyPost_ret (bn rfl _ _ (w.heap.size + 1) 26 _ (0, 0) _ rfl b3 Tryz.underlying26 rfl (eH.oU _)) rfl ⟨rfl, B1.out.trans (o3.below (by simp))⟩
theorem Vs : YE := fun a w h hM hR => TK a w h hM hR
end
section
open Go.RowKit Go.Shelf
attribute [local go_sem] Oper.semAt_some
theorem Rv (a : bF) (w : World) (h : a.In w w.heap.size) (Vz : a.bG.length ≤ 40) (hv : ∀ t ∈ a.bG, t.T.ins.length ≤ 60) :
 CallsIn Fence.wide 9 Tryz.prog 137 #[.agg a.cells.toArray] w fun e w' => e = .returned (.int .i64 (jW (a.bG.map aY.T) : Nat)) ∧ Below w.heap.size w w' := by
 have KA := qh (show au ((w.alloc (.cells a.cells.toArray 70)).alloc (.cells #[.int .i64 0] 3)) w.heap.size 0 a.cells from au.ah ((ax.new _ _ _).alloc _))
 refine callsIn_of_wp_marks Tryz.func137 rfl trivial ?_ rfl
 refine wpIn_wide.2 ?_
 simp only [Tryz.ntmps137, List.size_toArray, List.length_cons, List.length_nil, Nat.reduceAdd, Nat.reduceSub, Array.replicate_succ, Array.replicate_zero, List.push_toArray, List.append_toArray, List.nil_append, List.cons_append]
 go_wp2_with (first
  | ((with_reducible refine az 1 ?_); refine fe.af rfl (.tmp 1) rfl w.heap.size 0 rfl a KA.out ?_))
 refine (callsIn_wide.1 (FX Fence.wide 9 (by omega) trivial trivial rfl a _)).mono ?_
 rintro e w' ⟨rfl, rfl⟩
 go_wp2_with fail
 rw [← wpIn_wide (n := 9)]
 have bN := ((Boxed.new (w.alloc (.cells a.cells.toArray 70)) 3 (.int .i64 0)).alloc (.cells a.cells.toArray 70)).alloc (.cells #[.slice a.A a.bG.length a.c] 68)
 have bA := ax.new (((w.alloc (.cells a.cells.toArray 70)).alloc (.cells #[.int .i64 0] 3)).alloc (.cells a.cells.toArray 70)) 68 #[.slice a.A a.bG.length a.c]
 simp only [World.size_alloc] at bN bA
 have hB0 : Below w.heap.size w ((((w.alloc (.cells a.cells.toArray 70)).alloc (.cells #[.int .i64 0] 3)).alloc (.cells a.cells.toArray 70)).alloc (.cells #[.slice a.A a.bG.length a.c] 68)) := ((((Below.refl _ w).alloc (Nat.le_refl _) _).alloc (by simp) _).alloc (by simp; omega) _).alloc (by simp; omega) _
 have hsz : ((((w.alloc (.cells a.cells.toArray 70)).alloc (.cells #[.int .i64 0] 3)).alloc (.cells a.cells.toArray 70)).alloc (.cells #[.slice a.A a.bG.length a.c] 68)).heap.size = w.heap.size + 4 := by simp
 obtain ⟨W0, hW0⟩ : ∃ W0, (((w.alloc (.cells a.cells.toArray 70)).alloc (.cells #[.int .i64 0] 3)).alloc (.cells a.cells.toArray 70)).alloc (.cells #[.slice a.A a.bG.length a.c] 68) = W0 := ⟨_, rfl⟩
 rw [hW0] at bN bA hB0 hsz ⊢
 clear hW0 KA
 have IA := qh h
 have HV := qh hv
 clear h hv
 refine wpIn_rangeFunc_ownH rfl (by omega) (gf := 186) (lb := #[.pointer (some ⟨w.heap.size + 1 + 1 + 1, 0, none⟩)]) rfl trivial (enters_of Tryz.func186 (by kernel_rfl) rfl)
  (vk Fence.wide 8 trivial rfl (by omega) (w.heap.size + 1 + 1 + 1) w.heap.size a W0 (by omega) bA (IA.out.row.below hB0)) belowK_t (belowK_b (by omega)) (Below.refl _ _) (fun _ => rfl)
  (fun pre W => Boxed W (w.heap.size + 1) 3 (.int .i64 (jW (pre.map fun x => x.1.T) : Nat)) ∧ Below w.heap.size w W)
  (fun _ _ _ => False)
  (OwnFrom.and (Own.from (boxed_own _ _ _) _) (ownFrom_below (Nat.le_refl _) (by omega)))
  (fun _ _ _ _ _ hs _ _ => hs)
  ⟨bN, hB0⟩
  (fun x a' W => ∃ Bx, w.heap.size + 1 < Bx ∧ ax W Bx 92 x.1.cells.toArray ∧ a' = { tmps := #[.agg a.cells.toArray, .pointer (some ⟨w.heap.size, 0, none⟩), .int .i64 0, .pointer (some ⟨w.heap.size + 1, 0, none⟩), .pointer (some ⟨Bx, 0, none⟩), .agg a.cells.toArray, .func (.func 186) #[] #[.pointer (some ⟨w.heap.size + 1 + 1 + 1, 0, none⟩)], .agg x.1.cells.toArray, undef, undef, undef, undef, undef, undef, undef, undef, undef], defers := [] })
  (fun x a' _ X Y row hs hg hr => by
   obtain ⟨Bx, h1, h2, h3⟩ := hs
   refine ⟨Bx, h1, (hg.block Bx h2.lt (fun e => ?_)).trans h2, h3⟩
   obtain ⟨_, o, ho, hc⟩ := hr Bx e.symm
   rw [show X.heap[Bx]? = _ from h2] at ho
   cases ho
   cases hc)
  ?assign ?body ?done ?stop
 case assign =>
  rintro l pre x W K ⟨b1, hB1⟩ hK
  gi_wp2_with ((with_reducible refine oQ 4 7 ?_); refine di.ig rfl (.tmp 4) (.tmp 7) rfl rfl x.1 rfl rfl (by kernel_rfl) ?_)
  exact hK _ _ ((KeepsOthers.alloc _ _).from _) ((Below.refl _ W).alloc hB1.size _) ⟨b1.alloc _, hB1.alloc hB1.size _⟩ ⟨W.heap.size, b1.lt, ax.new W _ _, rfl⟩
 case body =>
  rintro l pre x a' W hl ⟨r, hr⟩ ⟨b1, hB1⟩ ⟨Bx, hBx, bX, rfl⟩ hlt
  have YT := qh (show x.1.In W W.heap.size from aY.In.on (IA.out.each x.1 x.2) hB1 (Nat.le_refl _))
  have HX := qh (HV.out x.1 x.2)
  have hq : jW (pre.map fun x => x.1.T) ≤ 2400 := by
   have h1 := MJ (pre.map fun x => x.1.T) (fun T hT => by obtain ⟨y, _, rfl⟩ := List.mem_map.1 hT; exact HV.out y.1 y.2)
   rw [List.length_map] at h1
   omega
  have HN := qh (show jW ((pre ++ [x]).map fun x => x.1.T) = jW (pre.map fun x => x.1.T) + JB x.1.T by rw [List.map_append]; exact Gi _ _)
  obtain ⟨q, hqq⟩ : ∃ q, jW (pre.map fun x => x.1.T) = q := ⟨_, rfl⟩
  rw [hqq] at b1 hq HN
  clear hqq
  have hsg : JB x.1.T = if gy x.1.T then 0 else x.1.T.ins.length := rfl
  obtain ⟨cb, hcb⟩ : ∃ cb, gy x.1.T = cb := ⟨_, rfl⟩
  rw [hcb] at hsg
  have HC := qh hcb
  have YM := qh hsg
  have K1 := qh b1
  have KX := qh bX
  have HB1 := qh hB1
  clear hcb hsg b1 bX hB1
  gi_wp2_with (first
   | ((with_reducible refine qR 4 ?_); refine di.iP rfl (.tmp 4) rfl Bx 0 rfl x.1 (au.ah KX.out) ?_)
   | (refine ⟨trivial, ?_⟩; gi_at_call 198; refine (CallsIn.inRound l (callsIn_wide.2 (zf x.1 _ YT.out))).mono ?_
      rintro e w1 ⟨rfl, hb⟩
      have KF := qh (show KeepsFrom W0.heap.size W w1 from ⟨hb.size, fun k o _ hk _ => (hb.block k (Array.getElem?_eq_some_iff.1 hk).1).trans hk⟩)
      have HB2 := qh (hb.mono HB1.out.size)
      have K2 := qh (show Boxed w1 (w.heap.size + 1) 3 (.int .i64 (q : Nat)) from (hb.block _ K1.out.lt).trans K1.out)
      have KX2 := qh (aa hb KX.out KX.out.lt)
      have cN := K2.out.cell
      have fN := K2.out.frozen
      have d1 := aY.c1 (au.ah KX2.out)
      have aaP := HX.out
      rw [HC.out]
      clear hb K1 KX
      cases cb))
  ·have HW := qh (show wrap64 ((q : Int) + (x.1.T.ins.length : Int)) = ((q + x.1.T.ins.length : Nat) : Int) by unfold wrap64; omega)
   gi_wp2
   refine ⟨KF.out.trans ((KeepsOthers.setCell _ _ _).from _), HB2.out.setCell (p := ⟨w.heap.size + 1, 0, none⟩) (by simp) _, ?_, (HB1.out.trans HB2.out).setCell (p := ⟨w.heap.size + 1, 0, none⟩) (by simp) _⟩
   rw [HN.out, YM.out]
   exact K2.out.set _
  ·gi_wp2
   refine ⟨KF.out, HB2.out, ?_, HB1.out.trans HB2.out⟩
   rw [HN.out, YM.out]
   exact K2.out
 case done =>
  rintro D ys W hD rfl ⟨b1, hB1⟩ hK
  have cN := b1.cell
  go_wp2
  refine ⟨by simp, .inl ⟨_, _, rfl, run_takeDeferred hK, ?_⟩⟩
  refine ⟨_, results_tmp rfl _ _ _, ?_, hB1.trans (belowK_b (w := w) (Nat.le_refl _) W D _ _ (by omega) hK rfl rfl)⟩
  rw [zn a.bG]
  rfl
 case stop =>
  rintro D c pre W _ _ h _
  exact h.elim
end
section
open Go.RowKit Go.Shelf
theorem kQ {a : bF} (h : ku a.B = false) : a.bG.length ≤ 40 ∧ ∀ t ∈ a.bG, sJ t.T = false := by
 unfold ku at h
 rw [Bool.or_eq_false_iff, decide_eq_false_iff_not, List.any_eq_false] at h
 have h1 := h.1
 rw [show a.B.bG.length = a.bG.length from List.length_map _] at h1
 exact ⟨by omega, fun t ht => by simpa using h.2 t.T (List.mem_map.2 ⟨t, ht, rfl⟩)⟩
theorem uG {T : dX} (h : sJ T = false) : T.ins.length ≤ 60 ∧ T.notes.length ≤ 60 := by
 unfold sJ at h
 rw [decide_eq_false_iff_not] at h
 omega
theorem MK : TW := fun a w h hv =>
 callsIn_wide.1 (Rv a w h (kQ hv).1 (fun t ht => (uG ((kQ hv).2 t ht)).1))
theorem Az : QC := fun a w h hv => by
 refine (callsIn_wide.1 (NH a w h (kQ hv).1 (fun t ht => (uG ((kQ hv).2 t ht)).2))).mono ?_
 rintro e w' ⟨v, rfl, ho, hb⟩
 obtain ⟨A, c, rfl⟩ := ek ho
 exact ⟨⟨A, c, rfl, ho⟩, hb⟩
end
section
open Go.RowKit
theorem om (u : fD) (w : World) : Calls Tryz.prog 214 #[.agg u.cells.toArray, .int .i64 0] w fun e w' => e = .returned (.agg u.cells.toArray) ∧ Below w.heap.size w w' := by
 obtain ⟨Z, hZ, hz, hzs, hzn⟩ := bB gY jJ
 have HS := qh hzs
 have H0 := qh (show Holds w [(w.heap.size + 1, 29, Z), (w.heap.size, 29, u.cells.toArray)] ((w.alloc (.cells u.cells.toArray 29)).alloc (.cells Z 29)) by
  have := ((Holds.nil w).box 29 u.cells.toArray).box 29 Z
  simpa only [World.size_alloc, Nat.add_assoc] using this)
 clear hZ hzs
 go_enter Tryz.func214, Tryz.ntmps214
 go_wp2_with fail
 refine (qb _).mono ?_
 rintro e w' ⟨rfl, rfl⟩
 go_wp2_with (first
  | ((with_reducible refine az 2 ?_); refine gz.af rfl (.tmp 2) rfl w.heap.size 0 rfl u (au.ah (H0.out.b (w.heap.size) (29) (u.cells.toArray) (by simp))) ?_)
  | ((with_reducible refine ag 4 7 ?_); refine gz.aj rfl (.tmp 4) (.tmp 7) rfl rfl (w.heap.size + 1) u rfl rfl 29 _ (H0.out.b (w.heap.size + 1) (29) (Z) (by simp)) (by rw [HS.out]) ?_; intro w7 o7 b7))
 refine bodyPost_ret (aU rfl _ _ (w.heap.size + 1) 29 _ (0, 0) _ rfl b7 Tryz.underlying29 rfl (by rw [gz.arr]; kernel_rfl)) rfl ⟨rfl, H0.out.below.trans (o7.below (by simp))⟩
theorem mH (u : fD) (z : Int) (hne : z ≠ 0) (w : World) : Calls Tryz.prog 214 #[.agg u.cells.toArray, .int .i64 z] w fun e w' => e = .panicked (LX z) ∧ Below w.heap.size w w' := by
 obtain ⟨Z, hZ, hz, hzs, hzn⟩ := bB gY jJ
 have B0 := qh (show Below w.heap.size w ((w.alloc (.cells u.cells.toArray 29)).alloc (.cells Z 29)) from ((Below.refl w.heap.size w).alloc (Nat.le_refl _) _).alloc (by simp) _)
 have HM := qh (fun W => JO z hne W)
 clear hne hZ hzs
 go_enter Tryz.func214, Tryz.ntmps214
 go_wp2_with fail
 refine (HM.out _).mono ?_
 rintro e w' ⟨rfl, rfl⟩
 exact ⟨rfl, rfl, B0.out⟩
def zx (lo : Nat) (U : jE) (d : CA) (b : bF) (w : World) (x : Except Int fD) (e : Ending) (w' : World) : Prop :=
 Below w.heap.size w w' ∧ match x with
  | .error z => e = .panicked (LX z)
  | .ok tt => ∃ y : CA, y.V = ⟨⟨U.W.h, (qY b.B).1, U.W.aV, U.W.av, tt, ou U.W.ring b.root, U.W.pool⟩, bU 4 (d.past.map eB.S ++ [(b.B, d.c.C)])⟩ ∧ e = .returned (.agg y.cells.toArray) ∧ nC lo w' y
structure YX (k : rz) : Prop where
 l : QF k.d k.b
 r : k.U.W.ring.length ≤ 200
 n : (dz k.b.B.bG).length ≤ 100
 h : ku k.b.B = false
 m : QE k.b.B
 i : (qY k.b.B).2 = 0
theorem uD {g : Nat} {k : rz} {w : World} (h : ax w g 222 k.cells.toArray) (i : Nat) (v : Value) (hv : k.U.cells[i]? = some v) : w.cell? ⟨g, i, none⟩ = some v := jK (rest := k.d.cells ++ k.b.cells) h i v hv
theorem M7 (g lo : Nat) (k : rz) (w : World) (hb : ax w g 222 k.cells.toArray) (hd : k.d.In w w.heap.size) (hbk : k.b.In w w.heap.size) (hri : aK ak 32 w w.heap.size k.U.Ar k.U.cr k.U.W.ring) (hco : w.ownsRow lo 317 68 (.slice k.U.Ac k.U.W.aV.length k.U.cc) k.U.W.aV.length (cellsOf aX k.U.W.aV)) (hnu : w.ownsRow lo 26 32 (.slice k.U.An k.U.W.av.length k.U.cn) k.U.W.av.length (cellsOf ak k.U.W.av)) (hlo : lo ≤ w.heap.size) (hR : aM w) (hl : YX k) :
 Calls Tryz.prog 144 #[.pointer (some ⟨g, 0, none⟩)] w (zx lo k.U k.d k.b w (ja k.d.c.C.tree k.b.B)) := by
 obtain ⟨Z, hZ, hz, hzs, hzn⟩ := bB dZ fQ
 obtain ⟨Y, hY, hy, hys, hyn⟩ := bB gY jJ
 have HS := qh (And.intro hzs hys)
 have HG := qh hb.lt
 have HH0 := qh (show Holds w [(w.heap.size, 45, Z)] (w.alloc (.cells Z 45)) from (Holds.nil w).box 45 Z)
 have HB0 := qh (show ax (w.alloc (.cells Z 45)) g 222 k.cells.toArray from hb.alloc _)
 have ZK := qh hl
 have DI := qh hd
 have BI := qh hbk
 have RI := qh hri
 have CO_ := qh (And.intro hco hnu)
 have HLO := qh hlo
 have RO := qh (show ∀ V, Below w.heap.size w V → aM V from fun _ hb => aM.below hR hb (aM.sH hR) (aM.qL hR))
 obtain ⟨X, hX⟩ : ∃ X, ja k.d.c.C.tree k.b.B = X := ⟨_, rfl⟩
 rw [hX]
 unfold ja at hX
 obtain ⟨tt, htt⟩ : ∃ tt, (allT k.d.c.C.tree (dz k.b.B.bG)).1 = tt := ⟨_, rfl⟩
 obtain ⟨te, hte⟩ : ∃ te, (allT k.d.c.C.tree (dz k.b.B.bG)).2 = te := ⟨_, rfl⟩
 have AT := qh (fun V A cc (r : aK ak 32 V V.heap.size A cc (dz k.b.B.bG)) (ro : aM V) => htt ▸ hte ▸ Gu k.d.c.C.tree A cc (dz k.b.B.bG) V hl.n r ro)
 have NB := qh (fun V (h : k.b.In V V.heap.size) => Az k.b V h hl.h)
 rw [htt, hte] at hX
 have HX := qh hX
 clear htt hte hX hb hl hd hbk hri hco hnu hlo hR hZ hY hzs hys
 go_enter Tryz.func144, Tryz.ntmps144
 go_wp2_with fail
 by_cases h0 : te = 0
 rotate_left
 ·have UW := qh h0
  have ZI := qh (show ∀ V, Below w.heap.size w V → zx lo k.U k.d k.b w X (.panicked (LX te)) V from fun V hb => by
   have hx := HX.out
   rw [if_pos h0] at hx
   subst hx
   exact ⟨hb, rfl⟩)
  clear h0
  refine wp_region_held_drew (S := fun V => Holds w [(w.heap.size, 45, Z)] V ∧ ax V g 222 k.cells.toArray) (by kernel_rfl) ⟨HH0.out.call (Below.refl _ _).drew, HB0.out.drew⟩ ?_
  clear HH0 HB0
  intro hS
  generalize (w.alloc (.cells Z 45)).drew = wd at hS ⊢
  refine tkp 0 (.pointer (some ⟨g, 0, none⟩)) rfl hS ?_
  go_simp
  refine tkp 1 (.pointer (some ⟨g, 0, none⟩)) rfl hS ?_
  go_simp
  refine tkp 2 (.pointer (some ⟨g, 7, none⟩)) rfl hS ?_
  go_simp
  refine tkp 3 (.pointer (some ⟨g, 42, none⟩)) rfl hS ?_
  go_simp
  refine tk 4 (.agg k.d.c.C.tree.cells.toArray) rfl (gz.aB (by rfl) (.tmp 8) rfl g 42 rfl k.d.c.C.tree (fun _ h => eT.c4 (rz.rd (au.ah h.2)))) hS ?_
  go_simp
  refine tkp 5 (.pointer (some ⟨g, 0, none⟩)) rfl hS ?_
  go_simp
  refine tkp 6 (.pointer (some ⟨g, 0, none⟩)) rfl hS ?_
  go_simp
  refine tkp 7 (.pointer (some ⟨g, 1070, none⟩)) rfl hS ?_
  go_simp
  refine tk 8 (.agg k.b.cells.toArray) rfl (fe.aB (by rfl) (.tmp 12) rfl g 1070 rfl k.b (fun _ h => rz.rb (au.ah h.2))) hS ?_
  go_simp
  refine rd2 9 14 rfl (fun Kq hK => ?_) rfl (fun Kq hK => ?_)
  ·go_simp
   with_reducible refine (NB.out _ ((BI.out.below hS.1.below).more hS.1.below.size)).mono ?_
   rintro e yN ⟨⟨A7, c7, rfl, p7⟩, bq⟩
   have R7 := qh (dm aC p7)
   clear p7
   refine hK.out _ _ ⟨hS.1.call bq, aa bq hS.2 hS.2.lt⟩ (fun hS => ?_)
   clear hK Kq bq
   go_simp
   refine rd2 10 14 rfl (fun Kq hK => ?_) rfl (fun Kq hK => ?_)
   ·go_simp
    with_reducible refine (AT.out _ A7 c7 R7.out (RO.out _ hS.1.below)).mono ?_
    rintro e yA ⟨rfl, bq⟩
    refine hK.out _ _ ⟨hS.1.call bq, aa bq hS.2 hS.2.lt⟩ (fun hS => ?_)
    clear hK Kq bq
    go_simp
    refine tkp 11 (.agg tt.cells.toArray) rfl hS ?_
    go_simp
    refine tkp 12 (.int .i64 te) rfl hS ?_
    go_simp
    refine rd2 13 14 rfl (fun Kq hK => ?_) rfl (fun Kq hK => ?_)
    ·go_simp
     with_reducible refine (mH tt te UW.out _).mono ?_
     rintro e yR ⟨rfl, bq⟩
     exact ⟨rfl, ZI.out _ (hS.1.below.trans (bq.mono hS.1.below.size))⟩
    ·go_simp
     have bq : Below (yA).heap.size (yA) ((yA).alloc (.cells Y 29)) := (Below.refl _ _).alloc (Nat.le_refl _) _
     have KZ := qh (show ax ((yA).alloc (.cells Y 29)) (yA).heap.size 29 Y from ax.new (yA) 29 Y)
     have zC := qh (show w.heap.size < (yA).heap.size from (hS.1.b (w.heap.size) (45) (Z) (by simp)).lt)
     refine hK.out _ _ ⟨hS.1.call bq, aa bq hS.2 hS.2.lt⟩ (fun hS => ?_)
     clear hK Kq bq
     go_simp
     refine rd 13 rfl (fun Kq hK => ?_)
     go_simp
     with_reducible refine (mH tt te UW.out _).mono ?_
     rintro e yR ⟨rfl, bq⟩
     exact ⟨rfl, ZI.out _ (hS.1.below.trans (bq.mono hS.1.below.size))⟩
   ·go_simp
    have bq : Below (yN).heap.size (yN) ((yN).alloc (.cells Y 29)) := (Below.refl _ _).alloc (Nat.le_refl _) _
    have KZ := qh (show ax ((yN).alloc (.cells Y 29)) (yN).heap.size 29 Y from ax.new (yN) 29 Y)
    have zC := qh (show w.heap.size < (yN).heap.size from (hS.1.b (w.heap.size) (45) (Z) (by simp)).lt)
    have YB := qh ((R7.out.below bq).more bq.size)
    clear R7
    have R7 := YB
    clear YB
    refine hK.out _ _ ⟨hS.1.call bq, aa bq hS.2 hS.2.lt⟩ (fun hS => ?_)
    clear hK Kq bq
    go_simp
    refine rd 10 rfl (fun Kq hK => ?_)
    go_simp
    with_reducible refine (AT.out _ A7 c7 R7.out (RO.out _ hS.1.below)).mono ?_
    rintro e yA ⟨rfl, bq⟩
    have uY := qh (aa bq KZ.out KZ.out.lt)
    clear KZ
    have KZ := uY
    clear uY
    refine hK.out _ _ ⟨hS.1.call bq, aa bq hS.2 hS.2.lt⟩ (fun hS => ?_)
    clear hK Kq bq
    go_simp
    refine tkp 11 (.agg tt.cells.toArray) rfl hS ?_
    go_simp
    refine tkp 12 (.int .i64 te) rfl hS ?_
    go_simp
    refine rd 13 rfl (fun Kq hK => ?_)
    go_simp
    with_reducible refine (mH tt te UW.out _).mono ?_
    rintro e yR ⟨rfl, bq⟩
    exact ⟨rfl, ZI.out _ (hS.1.below.trans (bq.mono hS.1.below.size))⟩
  ·go_simp
   have bq : Below (wd).heap.size (wd) ((wd).alloc (.cells Y 29)) := (Below.refl _ _).alloc (Nat.le_refl _) _
   have KZ := qh (show ax ((wd).alloc (.cells Y 29)) (wd).heap.size 29 Y from ax.new (wd) 29 Y)
   have zC := qh (show w.heap.size < (wd).heap.size from (hS.1.b (w.heap.size) (45) (Z) (by simp)).lt)
   refine hK.out _ _ ⟨hS.1.call bq, aa bq hS.2 hS.2.lt⟩ (fun hS => ?_)
   clear hK Kq bq
   go_simp
   refine rd 9 rfl (fun Kq hK => ?_)
   go_simp
   with_reducible refine (NB.out _ ((BI.out.below hS.1.below).more hS.1.below.size)).mono ?_
   rintro e yN ⟨⟨A7, c7, rfl, p7⟩, bq⟩
   have R7 := qh (dm aC p7)
   clear p7
   have uY := qh (aa bq KZ.out KZ.out.lt)
   clear KZ
   have KZ := uY
   clear uY
   refine hK.out _ _ ⟨hS.1.call bq, aa bq hS.2 hS.2.lt⟩ (fun hS => ?_)
   clear hK Kq bq
   go_simp
   refine rd 10 rfl (fun Kq hK => ?_)
   go_simp
   with_reducible refine (AT.out _ A7 c7 R7.out (RO.out _ hS.1.below)).mono ?_
   rintro e yA ⟨rfl, bq⟩
   have uY := qh (aa bq KZ.out KZ.out.lt)
   clear KZ
   have KZ := uY
   clear uY
   refine hK.out _ _ ⟨hS.1.call bq, aa bq hS.2 hS.2.lt⟩ (fun hS => ?_)
   clear hK Kq bq
   go_simp
   refine tkp 11 (.agg tt.cells.toArray) rfl hS ?_
   go_simp
   refine tkp 12 (.int .i64 te) rfl hS ?_
   go_simp
   refine rd 13 rfl (fun Kq hK => ?_)
   go_simp
   with_reducible refine (mH tt te UW.out _).mono ?_
   rintro e yR ⟨rfl, bq⟩
   exact ⟨rfl, ZI.out _ (hS.1.below.trans (bq.mono hS.1.below.size))⟩
 subst h0
 have Ji := qh HX.out
 clear HX
 rw [if_neg (by simp)] at Ji
 go_cut [3] from 5 to 18 (fun v3 wc => ∃ g3 : Nat, v3 = .pointer (some ⟨g3, 0, none⟩) ∧ Hid (Holds w [(w.heap.size, 45, Z)] wc ∧ ax wc g 222 k.cells.toArray) ∧ Hid (ax wc g3 29 tt.cells.toArray) ∧ Hid (w.heap.size < g3))
 case first =>
  refine wp_region_held_drew (S := fun V => Holds w [(w.heap.size, 45, Z)] V ∧ ax V g 222 k.cells.toArray) (by kernel_rfl) ⟨HH0.out.call (Below.refl _ _).drew, HB0.out.drew⟩ ?_
  clear HH0 HB0
  intro hS
  generalize (w.alloc (.cells Z 45)).drew = wd at hS ⊢
  refine tkp 0 (.pointer (some ⟨g, 0, none⟩)) rfl hS ?_
  go_simp
  refine tkp 1 (.pointer (some ⟨g, 0, none⟩)) rfl hS ?_
  go_simp
  refine tkp 2 (.pointer (some ⟨g, 7, none⟩)) rfl hS ?_
  go_simp
  refine tkp 3 (.pointer (some ⟨g, 42, none⟩)) rfl hS ?_
  go_simp
  refine tk 4 (.agg k.d.c.C.tree.cells.toArray) rfl (gz.aB (by rfl) (.tmp 8) rfl g 42 rfl k.d.c.C.tree (fun _ h => eT.c4 (rz.rd (au.ah h.2)))) hS ?_
  go_simp
  refine tkp 5 (.pointer (some ⟨g, 0, none⟩)) rfl hS ?_
  go_simp
  refine tkp 6 (.pointer (some ⟨g, 0, none⟩)) rfl hS ?_
  go_simp
  refine tkp 7 (.pointer (some ⟨g, 1070, none⟩)) rfl hS ?_
  go_simp
  refine tk 8 (.agg k.b.cells.toArray) rfl (fe.aB (by rfl) (.tmp 12) rfl g 1070 rfl k.b (fun _ h => rz.rb (au.ah h.2))) hS ?_
  go_simp
  refine rd2 9 14 rfl (fun Kq hK => ?_) rfl (fun Kq hK => ?_)
  ·go_simp
   with_reducible refine (NB.out _ ((BI.out.below hS.1.below).more hS.1.below.size)).mono ?_
   rintro e yN ⟨⟨A7, c7, rfl, p7⟩, bq⟩
   have R7 := qh (dm aC p7)
   clear p7
   refine hK.out _ _ ⟨hS.1.call bq, aa bq hS.2 hS.2.lt⟩ (fun hS => ?_)
   clear hK Kq bq
   go_simp
   refine rd2 10 14 rfl (fun Kq hK => ?_) rfl (fun Kq hK => ?_)
   ·go_simp
    with_reducible refine (AT.out _ A7 c7 R7.out (RO.out _ hS.1.below)).mono ?_
    rintro e yA ⟨rfl, bq⟩
    refine hK.out _ _ ⟨hS.1.call bq, aa bq hS.2 hS.2.lt⟩ (fun hS => ?_)
    clear hK Kq bq
    go_simp
    refine tkp 11 (.agg tt.cells.toArray) rfl hS ?_
    go_simp
    refine tkp 12 (.int .i64 0) rfl hS ?_
    go_simp
    refine rd2 13 14 rfl (fun Kq hK => ?_) rfl (fun Kq hK => ?_)
    ·go_simp
     with_reducible refine (om tt _).mono ?_
     rintro e yR ⟨rfl, bq⟩
     refine hK.out _ _ ⟨hS.1.call bq, aa bq hS.2 hS.2.lt⟩ (fun hS => ?_)
     clear hK Kq bq
     go_simp
     refine rd 14 rfl (fun Kq hK => ?_)
     go_simp
     have bq : Below (yR).heap.size (yR) ((yR).alloc (.cells Y 29)) := (Below.refl _ _).alloc (Nat.le_refl _) _
     have KZ := qh (show ax ((yR).alloc (.cells Y 29)) (yR).heap.size 29 Y from ax.new (yR) 29 Y)
     have zC := qh (show w.heap.size < (yR).heap.size from (hS.1.b (w.heap.size) (45) (Z) (by simp)).lt)
     refine hK.out _ _ ⟨hS.1.call bq, aa bq hS.2 hS.2.lt⟩ (fun hS => ?_)
     clear hK Kq bq
     go_simp
     refine rd 15 rfl (fun Kq hK => ?_)
     refine gz.aH rfl (.tmp 3) (.tmp 18) rfl rfl ((yR).heap.size) tt rfl rfl 29 _ KZ.out (by rw [HS.out.2]) ?_
     intro w5 o5 b5
     have SX := qh (show Holds w [(w.heap.size, 45, Z)] w5 ∧ ax w5 g 222 k.cells.toArray from ⟨hS.1.keep o5 (by have := zC.out; omega) (by have := zC.out; simp <;> omega), o5.blk hS.2 (by have := zC.out; have := HG.out; simp; omega)⟩)
     have K5 := qh b5
     refine hK.out _ _ SX.out (fun hS => ?_)
     clear hK Kq o5 b5
     refine wpAnyH_done (by kernel_rfl) ?_ _
     go_wp2_with fail
     go_meet
     exact ⟨_, rfl, qh SX.out, qh K5.out, qh zC.out⟩
    ·go_simp
     have bq : Below (yA).heap.size (yA) ((yA).alloc (.cells Y 29)) := (Below.refl _ _).alloc (Nat.le_refl _) _
     have KZ := qh (show ax ((yA).alloc (.cells Y 29)) (yA).heap.size 29 Y from ax.new (yA) 29 Y)
     have zC := qh (show w.heap.size < (yA).heap.size from (hS.1.b (w.heap.size) (45) (Z) (by simp)).lt)
     refine hK.out _ _ ⟨hS.1.call bq, aa bq hS.2 hS.2.lt⟩ (fun hS => ?_)
     clear hK Kq bq
     go_simp
     refine rd 13 rfl (fun Kq hK => ?_)
     go_simp
     with_reducible refine (om tt _).mono ?_
     rintro e yR ⟨rfl, bq⟩
     have uY := qh (aa bq KZ.out KZ.out.lt)
     clear KZ
     have KZ := uY
     clear uY
     refine hK.out _ _ ⟨hS.1.call bq, aa bq hS.2 hS.2.lt⟩ (fun hS => ?_)
     clear hK Kq bq
     go_simp
     refine rd 15 rfl (fun Kq hK => ?_)
     refine gz.aH rfl (.tmp 3) (.tmp 18) rfl rfl ((yA).heap.size) tt rfl rfl 29 _ KZ.out (by rw [HS.out.2]) ?_
     intro w5 o5 b5
     have SX := qh (show Holds w [(w.heap.size, 45, Z)] w5 ∧ ax w5 g 222 k.cells.toArray from ⟨hS.1.keep o5 (by have := zC.out; omega) (by have := zC.out; simp <;> omega), o5.blk hS.2 (by have := zC.out; have := HG.out; simp; omega)⟩)
     have K5 := qh b5
     refine hK.out _ _ SX.out (fun hS => ?_)
     clear hK Kq o5 b5
     refine wpAnyH_done (by kernel_rfl) ?_ _
     go_wp2_with fail
     go_meet
     exact ⟨_, rfl, qh SX.out, qh K5.out, qh zC.out⟩
   ·go_simp
    have bq : Below (yN).heap.size (yN) ((yN).alloc (.cells Y 29)) := (Below.refl _ _).alloc (Nat.le_refl _) _
    have KZ := qh (show ax ((yN).alloc (.cells Y 29)) (yN).heap.size 29 Y from ax.new (yN) 29 Y)
    have zC := qh (show w.heap.size < (yN).heap.size from (hS.1.b (w.heap.size) (45) (Z) (by simp)).lt)
    have YB := qh ((R7.out.below bq).more bq.size)
    clear R7
    have R7 := YB
    clear YB
    refine hK.out _ _ ⟨hS.1.call bq, aa bq hS.2 hS.2.lt⟩ (fun hS => ?_)
    clear hK Kq bq
    go_simp
    refine rd 10 rfl (fun Kq hK => ?_)
    go_simp
    with_reducible refine (AT.out _ A7 c7 R7.out (RO.out _ hS.1.below)).mono ?_
    rintro e yA ⟨rfl, bq⟩
    have uY := qh (aa bq KZ.out KZ.out.lt)
    clear KZ
    have KZ := uY
    clear uY
    refine hK.out _ _ ⟨hS.1.call bq, aa bq hS.2 hS.2.lt⟩ (fun hS => ?_)
    clear hK Kq bq
    go_simp
    refine tkp 11 (.agg tt.cells.toArray) rfl hS ?_
    go_simp
    refine tkp 12 (.int .i64 0) rfl hS ?_
    go_simp
    refine rd 13 rfl (fun Kq hK => ?_)
    go_simp
    with_reducible refine (om tt _).mono ?_
    rintro e yR ⟨rfl, bq⟩
    have uY := qh (aa bq KZ.out KZ.out.lt)
    clear KZ
    have KZ := uY
    clear uY
    refine hK.out _ _ ⟨hS.1.call bq, aa bq hS.2 hS.2.lt⟩ (fun hS => ?_)
    clear hK Kq bq
    go_simp
    refine rd 15 rfl (fun Kq hK => ?_)
    refine gz.aH rfl (.tmp 3) (.tmp 18) rfl rfl ((yN).heap.size) tt rfl rfl 29 _ KZ.out (by rw [HS.out.2]) ?_
    intro w5 o5 b5
    have SX := qh (show Holds w [(w.heap.size, 45, Z)] w5 ∧ ax w5 g 222 k.cells.toArray from ⟨hS.1.keep o5 (by have := zC.out; omega) (by have := zC.out; simp <;> omega), o5.blk hS.2 (by have := zC.out; have := HG.out; simp; omega)⟩)
    have K5 := qh b5
    refine hK.out _ _ SX.out (fun hS => ?_)
    clear hK Kq o5 b5
    refine wpAnyH_done (by kernel_rfl) ?_ _
    go_wp2_with fail
    go_meet
    exact ⟨_, rfl, qh SX.out, qh K5.out, qh zC.out⟩
  ·go_simp
   have bq : Below (wd).heap.size (wd) ((wd).alloc (.cells Y 29)) := (Below.refl _ _).alloc (Nat.le_refl _) _
   have KZ := qh (show ax ((wd).alloc (.cells Y 29)) (wd).heap.size 29 Y from ax.new (wd) 29 Y)
   have zC := qh (show w.heap.size < (wd).heap.size from (hS.1.b (w.heap.size) (45) (Z) (by simp)).lt)
   refine hK.out _ _ ⟨hS.1.call bq, aa bq hS.2 hS.2.lt⟩ (fun hS => ?_)
   clear hK Kq bq
   go_simp
   refine rd 9 rfl (fun Kq hK => ?_)
   go_simp
   with_reducible refine (NB.out _ ((BI.out.below hS.1.below).more hS.1.below.size)).mono ?_
   rintro e yN ⟨⟨A7, c7, rfl, p7⟩, bq⟩
   have R7 := qh (dm aC p7)
   clear p7
   have uY := qh (aa bq KZ.out KZ.out.lt)
   clear KZ
   have KZ := uY
   clear uY
   refine hK.out _ _ ⟨hS.1.call bq, aa bq hS.2 hS.2.lt⟩ (fun hS => ?_)
   clear hK Kq bq
   go_simp
   refine rd 10 rfl (fun Kq hK => ?_)
   go_simp
   with_reducible refine (AT.out _ A7 c7 R7.out (RO.out _ hS.1.below)).mono ?_
   rintro e yA ⟨rfl, bq⟩
   have uY := qh (aa bq KZ.out KZ.out.lt)
   clear KZ
   have KZ := uY
   clear uY
   refine hK.out _ _ ⟨hS.1.call bq, aa bq hS.2 hS.2.lt⟩ (fun hS => ?_)
   clear hK Kq bq
   go_simp
   refine tkp 11 (.agg tt.cells.toArray) rfl hS ?_
   go_simp
   refine tkp 12 (.int .i64 0) rfl hS ?_
   go_simp
   refine rd 13 rfl (fun Kq hK => ?_)
   go_simp
   with_reducible refine (om tt _).mono ?_
   rintro e yR ⟨rfl, bq⟩
   have uY := qh (aa bq KZ.out KZ.out.lt)
   clear KZ
   have KZ := uY
   clear uY
   refine hK.out _ _ ⟨hS.1.call bq, aa bq hS.2 hS.2.lt⟩ (fun hS => ?_)
   clear hK Kq bq
   go_simp
   refine rd 15 rfl (fun Kq hK => ?_)
   refine gz.aH rfl (.tmp 3) (.tmp 18) rfl rfl ((wd).heap.size) tt rfl rfl 29 _ KZ.out (by rw [HS.out.2]) ?_
   intro w5 o5 b5
   have SX := qh (show Holds w [(w.heap.size, 45, Z)] w5 ∧ ax w5 g 222 k.cells.toArray from ⟨hS.1.keep o5 (by have := zC.out; omega) (by have := zC.out; simp <;> omega), o5.blk hS.2 (by have := zC.out; have := HG.out; simp; omega)⟩)
   have K5 := qh b5
   refine hK.out _ _ SX.out (fun hS => ?_)
   clear hK Kq o5 b5
   refine wpAnyH_done (by kernel_rfl) ?_ _
   go_wp2_with fail
   go_meet
   exact ⟨_, rfl, qh SX.out, qh K5.out, qh zC.out⟩
 case rest =>
  obtain ⟨g3, rfl, H1, K3, HG3⟩ := hcut
  clear HH0 HB0 AT NB
  have RK := qh (fun V (h : Below w.heap.size w V) => uw tt V (RO.out V h))
  obtain ⟨rk, hrk⟩ : ∃ rk, pF tt 32 = rk := ⟨_, rfl⟩
  rw [hrk] at RK Ji
  clear hrk
  go_wp2_with ((with_reducible refine az 3 ?_); refine gz.af rfl (.tmp 3) rfl g3 0 rfl tt (au.ah K3.out) ?_)
  refine (RK.out _ H1.out.1.below).mono ?_
  rintro e w2 ⟨rfl, bq⟩
  have H2 := qh (show Holds w [(w.heap.size, 45, Z)] w2 ∧ ax w2 g 222 k.cells.toArray ∧ ax w2 g3 29 tt.cells.toArray from ⟨H1.out.1.call bq, aa bq H1.out.2 H1.out.2.lt, aa bq K3.out K3.out.lt⟩)
  clear bq H1 K3 RK
  go_wp2_with ((with_reducible refine ag 4 20 ?_); refine bL.aj rfl (.tmp 4) (.tmp 20) rfl rfl w2.heap.size rk rfl rfl 26 _ (ax.new _ _ _) rfl ?_; intro w3 o3 b3; have bl : Below w2.heap.size w2 w3 := ((Below.refl _ _).alloc (Nat.le_refl _) _).trans (o3.below (by simp)); have H3 := qh (show Holds w [(w.heap.size, 45, Z)] w3 ∧ ax w3 g 222 k.cells.toArray ∧ ax w3 g3 29 tt.cells.toArray ∧ ax w3 w2.heap.size 26 (ak rk).toArray from ⟨H2.out.1.call bl, aa bl H2.out.2.1 H2.out.2.1.lt, aa bl H2.out.2.2 H2.out.2.2.lt, b3⟩); clear o3 b3 bl H2)
  obtain ⟨g4, hg4⟩ : ∃ g4, w2.heap.size = g4 := ⟨_, rfl⟩
  rw [hg4] at H3 ⊢
  clear hg4
  refine wp_region_held_drew (S := fun V => Holds w [(w.heap.size, 45, Z)] V ∧ ax V g 222 k.cells.toArray ∧ ax V g3 29 tt.cells.toArray ∧ ax V g4 26 (ak rk).toArray) (by kernel_rfl) ⟨H3.out.1.call (Below.refl _ _).drew, H3.out.2.1.drew, H3.out.2.2.1.drew, H3.out.2.2.2.drew⟩ ?_
  clear H3
  intro hS
  refine tk 0 (.agg (ak rk).toArray) rfl (bL.aB (by rfl) (.tmp 4) rfl g4 0 rfl rk (fun _ h => au.ah h.2.2.2)) hS ?_
  go_simp
  refine tkp 1 (.pointer (some ⟨g, 0, none⟩)) rfl hS ?_
  go_simp
  refine tkp 2 (.pointer (some ⟨g, 0, none⟩)) rfl hS ?_
  go_simp
  refine tkp 3 (.pointer (some ⟨g, 1070, none⟩)) rfl hS ?_
  go_simp
  refine tkp 4 (.pointer (some ⟨g, 1102, none⟩)) rfl hS ?_
  go_simp
  refine tk 5 (.agg (ak k.b.root).toArray) rfl (bL.aB (by rfl) (.tmp 25) rfl g 1102 rfl k.b.root (fun _ h => by have := rz.rb (au.ah h.2.1); have h2 := au.right this; have h3 := au.left h2; rwa [aC] at h3)) hS ?_
  go_simp
  obtain ⟨q, hq⟩ : ∃ q, decide (rk = k.b.root) = q := ⟨_, rfl⟩
  refine tk 6 (.bool q) rfl (Go.Proofs.YtnpmpeoojncjhaaGreatDoor.u7 (by rfl) 26 26 (.tmp 21) (.tmp 26) rfl (ak rk).toArray (ak k.b.root).toArray rfl rfl (by kernel_rfl) q (fun V => hq ▸ jw rk k.b.root V)) hS ?_
  go_simp
  cases q with
  | false =>
   refine rd 7 rfl (fun Kq hK => ?_)
   go_simp
   with_reducible refine (jG 164 _).mono ?_
   rintro e x7 ⟨rfl, rfl⟩
   have hx := Ji.out
   rw [if_neg (show ¬ rk = k.b.B.root from of_decide_eq_false hq)] at hx
   subst hx
   exact ⟨rfl, hS.1.below, rfl⟩
  | true =>
  have hrb : rk = k.b.root := of_decide_eq_true hq
  subst hrb
  clear hq
  refine rd 7 rfl (fun Kq hK => ?_)
  go_simp
  with_reducible refine (jX 164 _).mono ?_
  rintro e x7 ⟨rfl, rfl⟩
  refine hK.out _ _ hS (fun hS => ?_)
  clear hK Kq
  refine wpAnyH_done (by kernel_rfl) ?_ _
  have hx := Ji.out
  rw [if_pos (show k.b.root = k.b.B.root from rfl)] at hx
  subst hx
  clear Ji
  have H4 := qh hS
  clear hS
  have HID := qh ZK.out.i
  obtain ⟨id, hid⟩ : ∃ id, (qY k.b.B).1 = id := ⟨_, rfl⟩
  have IDC := qh (fun V (h : k.b.In V V.heap.size) (r : aM V) => show Calls Tryz.prog 215 #[.agg k.b.cells.toArray] V fun e w' => e = .returned (.tuple #[.agg (ak id).toArray, .int .i64 0]) ∧ Below V.heap.size V w' from hid ▸ (show (0 : Int) = (qY k.b.B).2 from HID.out.symm) ▸ Vs k.b V h ZK.out.m r)
  have aaH := qh hid
  clear hid
  go_wp2_with fail
  refine wp_region_held_drew (S := fun V => Below w.heap.size w V ∧ ax V g 222 k.cells.toArray ∧ ax V g3 29 tt.cells.toArray ∧ ax V g4 26 (ak k.b.root).toArray ∧ ∃ cs, cs.size = 1063 ∧ ax V w.heap.size 45 cs) (by kernel_rfl) ⟨H4.out.1.below.drew, H4.out.2.1.drew, H4.out.2.2.1.drew, H4.out.2.2.2.drew, Z, HS.out.1, (H4.out.1.b (w.heap.size) (45) (Z) (by simp)).drew⟩ ?_
  clear H4
  intro hS
  refine tkp 0 (.pointer (some ⟨g, 0, none⟩)) rfl hS ?_
  go_simp
  refine tkp 1 (.pointer (some ⟨g, 0, none⟩)) rfl hS ?_
  go_simp
  refine tkp 2 (.pointer (some ⟨g, 0, none⟩)) rfl hS ?_
  go_simp
  refine tkp 3 (.pointer (some ⟨g, 0, none⟩)) rfl hS ?_
  go_simp
  refine tk 4 (.int .u32 k.U.W.h.1) rfl (bJ (by rfl) 24 (.tmp 32) rfl ⟨g, 0, none⟩ rfl _ Tryz.isAgg24 (fun _ h => uD h.2.1 0 _ rfl)) hS ?_
  go_simp
  refine tkp 5 (.pointer (some ⟨g, 0, none⟩)) rfl hS ?_
  go_simp
  refine tkp 6 (.pointer (some ⟨g, 0, none⟩)) rfl hS ?_
  go_simp
  refine tkp 7 (.pointer (some ⟨g, 1070, none⟩)) rfl hS ?_
  go_simp
  refine tk 8 (.agg k.b.cells.toArray) rfl (fe.aB (by rfl) (.tmp 36) rfl g 1070 rfl k.b (fun _ h => rz.rb (au.ah h.2.1))) hS ?_
  go_simp
  refine tkp 13 (.pointer (some ⟨g, 0, none⟩)) rfl hS ?_
  go_simp
  refine tkp 14 (.pointer (some ⟨g, 0, none⟩)) rfl hS ?_
  go_simp
  refine tkp 15 (.pointer (some ⟨g, 0, none⟩)) rfl hS ?_
  go_simp
  refine tkp 16 (.pointer (some ⟨g, 1, none⟩)) rfl hS ?_
  go_simp
  refine tk 17 (.slice k.U.Ac k.U.W.aV.length k.U.cc) rfl (bJ (by rfl) 42 (.tmp 45) rfl ⟨g, 1, none⟩ rfl _ Tryz.isAgg42 (fun _ h => uD h.2.1 1 _ rfl)) hS ?_
  go_simp
  refine tkp 18 (.pointer (some ⟨g, 0, none⟩)) rfl hS ?_
  go_simp
  refine tkp 19 (.pointer (some ⟨g, 0, none⟩)) rfl hS ?_
  go_simp
  refine tkp 20 (.pointer (some ⟨g, 0, none⟩)) rfl hS ?_
  go_simp
  refine tkp 21 (.pointer (some ⟨g, 2, none⟩)) rfl hS ?_
  go_simp
  refine tk 22 (.slice k.U.An k.U.W.av.length k.U.cn) rfl (bJ (by rfl) 22 (.tmp 50) rfl ⟨g, 2, none⟩ rfl _ Tryz.isAgg22 (fun _ h => uD h.2.1 2 _ rfl)) hS ?_
  go_simp
  refine tk 23 (.agg tt.cells.toArray) rfl (gz.aB (by rfl) (.tmp 3) rfl g3 0 rfl tt (fun _ h => au.ah h.2.2.1)) hS ?_
  go_simp
  refine tkp 24 (.pointer (some ⟨g, 0, none⟩)) rfl hS ?_
  go_simp
  refine tkp 25 (.pointer (some ⟨g, 0, none⟩)) rfl hS ?_
  go_simp
  refine tkp 26 (.pointer (some ⟨g, 0, none⟩)) rfl hS ?_
  go_simp
  refine tkp 27 (.pointer (some ⟨g, 3, none⟩)) rfl hS ?_
  go_simp
  refine tk 28 (.agg #[.slice k.U.Ar k.U.W.ring.length k.U.cr]) rfl (rV.aB (by rfl) (.tmp 56) rfl g 3 rfl (k.U.Ar, k.U.W.ring.length, k.U.cr) (fun _ h => uh (uD h.2.1 3 _ rfl))) hS ?_
  go_simp
  refine tk 29 (.agg (ak k.b.root).toArray) rfl (bL.aB (by rfl) (.tmp 4) rfl g4 0 rfl k.b.root (fun _ h => au.ah h.2.2.2.1)) hS ?_
  go_simp
  refine tkp 31 (.pointer (some ⟨g, 0, none⟩)) rfl hS ?_
  go_simp
  refine tkp 32 (.pointer (some ⟨g, 0, none⟩)) rfl hS ?_
  go_simp
  refine tkp 33 (.pointer (some ⟨g, 0, none⟩)) rfl hS ?_
  go_simp
  refine tkp 34 (.pointer (some ⟨g, 4, none⟩)) rfl hS ?_
  go_simp
  refine tk 35 (.int .i64 k.U.W.pool) rfl (bJ (by rfl) 2 (.tmp 63) rfl ⟨g, 4, none⟩ rfl _ Tryz.isAgg2 (fun _ h => uD h.2.1 4 _ rfl)) hS ?_
  go_simp
  refine tkp 36 (.pointer (some ⟨g, 0, none⟩)) rfl hS ?_
  go_simp
  refine rd 9 rfl (fun Kq hK => ?_)
  go_simp
  with_reducible refine (IDC.out _ ((BI.out.below hS.1).more hS.1.size) (RO.out _ hS.1)).mono ?_
  rintro e x9 ⟨rfl, bq⟩
  refine hK.out _ _ ⟨hS.1.trans (bq.mono hS.1.size), aa bq hS.2.1 hS.2.1.lt, aa bq hS.2.2.1 hS.2.2.1.lt, aa bq hS.2.2.2.1 hS.2.2.2.1.lt, hS.2.2.2.2.imp fun cs h => ⟨h.1, aa bq h.2 h.2.lt⟩⟩ (fun hS => ?_)
  clear hK Kq bq
  go_simp
  refine tkp 10 (.agg (ak id).toArray) rfl hS ?_
  go_simp
  refine tkp 11 (.int .i64 0) rfl hS ?_
  go_simp
  refine rd 12 rfl (fun Kq hK => ?_)
  go_simp
  with_reducible refine (yg id _).mono ?_
  rintro e x12 ⟨rfl, bq⟩
  refine hK.out _ _ ⟨hS.1.trans (bq.mono hS.1.size), aa bq hS.2.1 hS.2.1.lt, aa bq hS.2.2.1 hS.2.2.1.lt, aa bq hS.2.2.2.1 hS.2.2.2.1.lt, hS.2.2.2.2.imp fun cs h => ⟨h.1, aa bq h.2 h.2.lt⟩⟩ (fun hS => ?_)
  clear hK Kq bq
  go_simp
  refine rd 30 rfl (fun Kq hK => ?_)
  go_simp
  with_reducible refine (Ns k.U.Ar k.U.cr k.U.W.ring k.b.root _ ZK.out.r ((RI.out.below hS.1).more hS.1.size)).mono ?_
  rintro e x30 ⟨A5, c5, rfl, o5, bq⟩
  have O5 := qh (aW o5 hS.1.size)
  clear o5
  refine hK.out _ _ ⟨hS.1.trans (bq.mono hS.1.size), aa bq hS.2.1 hS.2.1.lt, aa bq hS.2.2.1 hS.2.2.1.lt, aa bq hS.2.2.2.1 hS.2.2.2.1.lt, hS.2.2.2.2.imp fun cs h => ⟨h.1, aa bq h.2 h.2.lt⟩⟩ (fun hS => ?_)
  clear hK Kq bq
  go_simp
  refine rd 37 rfl (fun Kq hK => ?_)
  go_simp
  with_reducible refine (RP g k _ hS.2.1 ((DI.out.below hS.1).more hS.1.size) ((BI.out.below hS.1).more hS.1.size) ZK.out.l).mono ?_
  rintro e x37 ⟨A6, c6, ys, hys, rfl, o6, e6, bq⟩
  have O6 := qh (aW o6 hS.1.size)
  have E6 := qh (fun y hy => (e6 y hy).mono hS.1.size)
  have P5 := qh (aL O5.out bq)
  have YG := qh hys
  clear o6 e6 O5 hys
  refine hK.out _ _ ⟨hS.1.trans (bq.mono hS.1.size), aa bq hS.2.1 hS.2.1.lt, aa bq hS.2.2.1 hS.2.2.1.lt, aa bq hS.2.2.2.1 hS.2.2.2.1.lt, hS.2.2.2.2.imp fun cs h => ⟨h.1, aa bq h.2 h.2.lt⟩⟩ (fun hS => ?_)
  clear hK Kq bq
  go_simp
  obtain ⟨D, hD⟩ : ∃ D : CA, (⟨⟨⟨k.U.W.h, id, k.U.W.aV, k.U.W.av, tt, ou k.U.W.ring k.b.root, k.U.W.pool⟩, k.U.Ac, k.U.cc, k.U.An, k.U.cn, A5, c5⟩, ys, A6, c6⟩ : CA) = D := ⟨_, rfl⟩
  have HD := qh hD
  have HBU := qh (show Tryz.prog.built 45 [(0, .int .u32 k.U.W.h.1), (1, .agg (ak id).toArray), (2, .slice k.U.Ac k.U.W.aV.length k.U.cc), (3, .slice k.U.An k.U.W.av.length k.U.cn), (4, .agg tt.cells.toArray), (5, .agg #[.slice A5 (ou k.U.W.ring k.b.root).length c5]), (6, .int .i64 k.U.W.pool), (7, .slice A6 ys.length c6)] = some D.cells.toArray from hD ▸ Li (⟨⟨⟨k.U.W.h, id, k.U.W.aV, k.U.W.av, tt, ou k.U.W.ring k.b.root, k.U.W.pool⟩, k.U.Ac, k.U.cc, k.U.An, k.U.cn, A5, c5⟩, ys, A6, c6⟩ : CA) 45 rfl)
  clear hD
  refine tk 38 (.agg D.cells.toArray) rfl (bH (by rfl) 45 #[(0, .tmp 33), (1, .tmp 41), (2, .tmp 46), (3, .tmp 51), (4, .tmp 52), (5, .tmp 59), (6, .tmp 64), (7, .tmp 66)] rfl D.cells.toArray ((congrArg (Tryz.prog.built 45) (show _ = [(0, Value.int .u32 k.U.W.h.1), (1, Value.agg (ak id).toArray), (2, Value.slice k.U.Ac k.U.W.aV.length k.U.cc), (3, Value.slice k.U.An k.U.W.av.length k.U.cn), (4, Value.agg tt.cells.toArray), (5, Value.agg #[.slice A5 (ou k.U.W.ring k.b.root).length c5]), (6, Value.int .i64 k.U.W.pool), (7, Value.slice A6 ys.length c6)] by kernel_rfl)).trans HBU.out)) hS ?_
  go_simp
  obtain ⟨hS1, hS2, Vy, Yk, cz, hcz, hbz⟩ := (show _ from hS)
  refine rd 39 rfl (fun Kq hK => ?_)
  refine cO.aH rfl (.tmp 2) (.tmp 67) rfl rfl w.heap.size D rfl rfl 45 _ hbz hcz ?_
  intro w9 o9 b9
  have B9 := qh (hS1.trans (o9.below (by simp)))
  have RES := qh (show nC lo w9 (⟨⟨⟨k.U.W.h, id, k.U.W.aV, k.U.W.av, tt, ou k.U.W.ring k.b.root, k.U.W.pool⟩, k.U.Ac, k.U.cc, k.U.An, k.U.cn, A5, c5⟩, ys, A6, c6⟩ : CA) from ⟨⟨aL CO_.out.1 B9.out, aL CO_.out.2 B9.out, aW (aI P5.out o9 hbz (by decide)) HLO.out⟩, aW (aI O6.out o9 hbz (by decide)) HLO.out, fun s hs => ((E6.out s hs).only o9 hbz (by decide) (by decide) (by decide) (by decide) (by decide)).mono HLO.out⟩)
  rw [HD.out] at RES
  have K9 := qh b9
  refine hK.out _ _ ⟨B9.out, o9.blk hS2 (by have := HG.out; simp; omega), o9.blk Vy (by have := HG3.out; simp; omega), o9.blk Yk (by intro h; rw [List.mem_singleton] at h; subst h; have := Yk; have h2 := hbz; unfold ax at this h2; rw [h2] at this; cases this), _, cO.arr _, b9⟩ (fun _ => ?_)
  clear hK Kq hS o9 b9 hS1 hS2 Vy Yk hbz
  refine wpAnyH_done (by kernel_rfl) ?_ _
  go_wp2_with fail
  refine bodyPost_ret (aU rfl _ _ w.heap.size 45 _ (0, 0) _ rfl K9.out Tryz.underlying45 rfl (by rw [cO.arr]; kernel_rfl)) rfl ?_
  refine ⟨B9.out, D, ?_, rfl, RES.out⟩
  rw [← HD.out]
  show (⟨_, ys.map eB.S⟩ : CV) = _
  rw [YG.out, aaH.out]
end
section
open Go.RowKit
theorem Gn (v : Value) (w : World) : Calls Tryz.prog 136 #[v, .int .i64 0] w fun e w' => e = .returned v ∧ w = w' := by
 go_enter Tryz.func136, Tryz.ntmps136
 go_wp2_with fail
 refine (qb _).mono ?_
 rintro e w' ⟨rfl, rfl⟩
 go_wp2
 go_ret
 exact ⟨rfl, rfl⟩
theorem yf (d : CA) (w : World) (hd : d.c.In w w.heap.size) (hn : kE d.c.C) :
 Calls Tryz.prog 91 #[.agg d.cells.toArray] w fun e w' => ∃ y : eT, y.C = d.c.C ∧ e = .returned (.agg (aP y).cells.toArray) ∧ CZ w.heap.size w' y ∧ Below w.heap.size w w' := by
 have H0 := qh (show Holds w [(w.heap.size, 45, d.cells.toArray), (w.heap.size + 1, 137, yD.cells.toArray)] ((w.alloc (.cells d.cells.toArray 45)).alloc (.cells yD.cells.toArray 137)) by
  have := ((Holds.nil w).box 45 d.cells.toArray).box 137 yD.cells.toArray
  simp only [World.size_alloc] at this
  exact this.of (by simp [or_comm]))
 have HA := qh (fun V (hb : Below w.heap.size w V) => yh d V ((hd.below hb).more hb.size) hn)
 clear hd hn
 go_enter Tryz.func91, Tryz.ntmps91
 go_wp2_with ((with_reducible refine az 1 ?_); refine cO.af rfl (.tmp 1) rfl w.heap.size 0 rfl d (au.ah (H0.out.b (w.heap.size) (45) (d.cells.toArray) (by simp))) ?_)
 refine (HA.out _ H0.out.below).mono ?_
 rintro e w1 ⟨y, hy, rfl, oy, bw⟩
 have HY := qh hy
 have OY := qh (oy.mono H0.out.below.size)
 have H1 := qh (H0.out.call bw)
 have hw : IntKind.u32.wrap (y.C.h.1 + 1) = (sU y.C.h).1 := by rw [IntKind.wrap_u32]; rfl
 have hw2 : (y.C.h.1 + 1) % 4294967296 = (sU y.C.h).1 := rfl
 clear hy oy bw H0 HA
 go_wp2_with (first
  | ((with_reducible refine ag 1 4 ?_); refine cO.aj rfl (.tmp 1) (.tmp 4) rfl rfl w.heap.size (Ib y) rfl rfl 45 _ (H1.out.b (w.heap.size) (45) (d.cells.toArray) (by simp)) (by rw [cO.arr]) ?_; intro w2 o2 b2; have hb0 := H1.out.b (w.heap.size) (45) (d.cells.toArray) (by simp); have H2 := qh (H1.out.turn o2 b2 (Nat.le_refl _) (by simp)); have O2 := qh (OY.out.only o2 hb0 (by decide) (by decide)); have rb := au.ah b2; have n0 : w2.cell? ⟨w.heap.size, 0, none⟩ = some (.int .u32 y.C.h.1) := eT.c0 rb; have n2 : w2.cell? ⟨w.heap.size, 33, none⟩ = some (.slice y.Ac y.C.aV.length y.cc) := (by have := eT.c2 rb; rwa [Nat.zero_add] at this); have n3 : w2.cell? ⟨w.heap.size, 34, none⟩ = some (.slice y.An y.C.av.length y.cn) := (by have := eT.c3 rb; rwa [Nat.zero_add] at this); have n5 : w2.cell? ⟨w.heap.size, 1060, none⟩ = some (.slice y.Ar y.C.ring.length y.cr) := (by have := eT.c5 rb; rwa [Nat.zero_add] at this); have n6 : w2.cell? ⟨w.heap.size, 1061, none⟩ = some (.int .i64 y.C.pool) := (by have := eT.c6 rb; rwa [Nat.zero_add] at this); clear o2 b2 hb0 rb OY H1)
  | ((with_reducible refine az 12 ?_); refine rV.af rfl (.tmp 12) rfl w.heap.size 1060 rfl (y.Ar, y.C.ring.length, y.cr) (uh n5) ?_)
  | ((with_reducible refine bW 16 ?_); refine bu rfl 137 #[(0, .tmp 7), (1, .tmp 9), (2, .tmp 11), (3, .tmp 13), (4, .tmp 15)] rfl (aP y).cells.toArray (by kernel_rfl) ?_)
  | ((with_reducible refine ag 2 16 ?_); refine pJ.aj rfl (.tmp 2) (.tmp 16) rfl rfl (w.heap.size + 1) (aP y) rfl rfl 137 _ (H2.out.b (w.heap.size + 1) (137) (yD.cells.toArray) (by simp)) rfl ?_; intro wz oz bz))
 refine bodyPost_ret (aU rfl _ _ (w.heap.size + 1) 137 _ (0, 0) _ rfl bz Tryz.underlying137 rfl (by rw [pJ.arr]; kernel_rfl)) rfl ?_
 exact ⟨y, HY.out, rfl, O2.out.only oz (H2.out.b (w.heap.size + 1) (137) (yD.cells.toArray) (by simp)) (by decide) (by decide), H2.out.below.trans (oz.below (by simp))⟩
end
section
open Go.RowKit
def UM (c : C0) (B : bK) (w : zu) (y : List aD × Int) : Except Int fD → Except Int C0
 | .error e => .error e
 | .ok t => .ok ⟨w.h, (qY B).1, y.1, w.av, t, ou c.ring B.root, y.2⟩
def Qb (c : C0) (B : bK) (w : zu) : Except Int (List aD × Int) → Except Int C0
 | .error e => .error e
 | .ok y => UM c B w y (ja c.tree B)
def VJ (c : C0) (B : bK) (T : dX) : Except Int zu → Except Int C0
 | .error e => .error e
 | .ok w => Qb c B w (jH w T)
def stT (y : List aD × List aD) : Except Int Int → Except Int (List aD × Int)
 | .error e => .error e
 | .ok p => .ok (y.1, p)
theorem Lg {W : zu} {T : dX} {z : Int} (h : iH W.aV T (wC T).1 W.h = .error z) : jH W T = .error z := by
 rw [uQ, h]
theorem Lf {W : zu} {T : dX} {y : List aD × List aD} (h : iH W.aV T (wC T).1 W.h = .ok y) : jH W T = stT y (jM W T) := by
 rw [uQ, h]
 simp only
 cases jM W T <;> rfl
theorem Ty (c : C0) (B : bK) (l : List rM) : vW c B l = if B.prev ≠ c.gB then .error 163
 else if (gX B).2 ≠ 0 then .error (gX B).2
 else if 20000 < (gX B).1.length ∨ 60 < jW B.bG then .error 51
 else if fB (kI B) true ≠ 0 then .error (fB (kI B) true)
 else if EU (kI B).exp.1 (dV c).h.1 = true then .error 120
 else VJ c B (kI B) (qw l (dV c) (B.bG.drop 1)) := by
 unfold vW
 cases qw l (dV c) (B.bG.drop 1) with
 | error e => rfl
 | ok w =>
  simp only [VJ]
  cases jH w (kI B) with
  | error e => rfl
  | ok y =>
   simp only [Qb]
   cases ja c.tree B <;> rfl
structure UT (w : World) (g : Nat) (L : List (Nat × TypeId × Array Value)) (d : CA) (b : bF) (U : jE) (V : World) : Prop where
 h : Holds w L V
 k : ax V g 222 (⟨U, d, b⟩ : rz).cells.toArray
 c : V.ownsRow w.heap.size 317 68 (.slice U.Ac U.W.aV.length U.cc) U.W.aV.length (cellsOf aX U.W.aV)
 n : V.ownsRow w.heap.size 26 32 (.slice U.An U.W.av.length U.cn) U.W.av.length (cellsOf ak U.W.av)
 r : V.ownsRow w.heap.size 26 32 (.slice U.Ar U.W.ring.length U.cr) U.W.ring.length (cellsOf ak U.W.ring)
theorem UT.call {w V V' : World} {g : Nat} {L : List (Nat × TypeId × Array Value)} {d : CA} {b : bF} {U : jE} (h : UT w g L d b U V) (bq : Below V.heap.size V V') : UT w g L d b U V' := ⟨h.h.call bq, aa bq h.k h.k.lt, aL h.c bq, aL h.n bq, aL h.r bq⟩
theorem UT.rows {w V : World} {g : Nat} {L : List (Nat × TypeId × Array Value)} {d : CA} {b : bF} {U : jE} (h : UT w g L d b U V) : YA g U V :=
 ⟨dm bR h.c, dm aC h.n, dm aC h.r, .inr (Cj h.c h.k (by decide)), .inr (Cj h.n h.k (by decide)), .inr (Cj h.r h.k (by decide))⟩
theorem Vk : UR 222 := ⟨by decide, by decide, by decide, by decide, by decide, by decide⟩
theorem Holds.Ec {w V V' : World} {L : List (Nat × TypeId × Array Value)} {g : Nat} (h : Holds w L V) (p : Past g V V') (hg : w.heap.size ≤ g) (hL : ∀ x ∈ L, x.1 ≠ g) : Holds w L V' :=
 ⟨h.below.trans (p.below hg h.below.size), fun x hx => p.blk (h.nS x hx) (hL x hx)⟩
def Uf (w : World) (x : Except Int CV) (e : Ending) (w' : World) : Prop :=
 Below w.heap.size w w' ∧ match x with
  | .error z => e = .panicked (LX z)
  | .ok v => ∃ y : CA, y.V = v ∧ e = .returned (.agg y.cells.toArray) ∧ nC w.heap.size w' y
structure Uh (d : CA) (b : bF) (m : Nat) : Prop where
 k : ∃ k, rR k d.c.C ∧ k + Gh b.B ≤ 300
 l : QF d b
 h : ku b.B = false
 o : (dz b.B.bG).length ≤ 100
 v : m ≤ 1500
theorem Td {B : bK} (h : (gX B).2 = 0) : (qY B).2 = 0 := by
 rcases yP B with ⟨_, _, h2⟩ | ⟨er, he, h1, _⟩
 ·rw [h2]
 ·rw [h1] at h
  exact absurd h he
end
section
open Go.RowKit
def Y0 (g : Nat) (w : World) (x : Except Int CV) (e : Ending) (w' : World) : Prop :=
 ∃ v, Below w.heap.size w v ∧ match x with
  | .error z => e = .panicked (LX z) ∧ v = w'
  | .ok c => ∃ y : CA, y.V = c ∧ e = .returned (.tuple #[]) ∧ Only [g] v w' ∧ ax w' g 45 y.cells.toArray ∧ nC w.heap.size w' y
theorem JQ (caps : Array Value) (W : World) : (callFunc 88 caps).run Tryz.prog W = .ok (.enter 88 caps) W := by simp [go_sem]
def Ug (w : World) (x : Except Int CV) (e : Ending) (w' : World) : Prop :=
 Below w.heap.size w w' ∧ match x with
  | .error z => e = .returned (.tuple #[.agg yE.cells.toArray, .int .i64 z])
  | .ok v => ∃ y : CA, y.V = v ∧ e = .returned (.tuple #[.agg y.cells.toArray, .int .i64 0]) ∧ nC w.heap.size w' y
end
section
open Go.RowKit
theorem Gs (A : Option Addr) (c : Nat) (l : List aS) (w : World) (hl : aK ak 32 w w.heap.size A c l) (hn : l.length = 1) :
 Calls Tryz.prog 17 #[.slice A l.length c] w fun e w' => e = .returned (.agg (ak (qo 0 l)).toArray) ∧ Below w.heap.size w w' := by
 obtain ⟨x, rfl⟩ : ∃ x, l = [x] := List.length_eq_one_iff.1 hn
 obtain ⟨g, o, hA, hg, hc⟩ := hl.at aC (i := 0) (by simp)
 have he : qo 0 [x] = x := rfl
 rw [he]
 subst hA
 have C0 := qh (show au (w.alloc (.cells (ak ai).toArray 26)) g o (ak x) from by
  have := hc.below ((Below.refl _ _).alloc (Nat.le_refl _) (.cells (ak ai).toArray 26)) hg
  simpa using this)
 clear hl hc hg he hn
 go_enter Tryz.func17, Tryz.ntmps17
 go_wp2_with (first
  | ((with_reducible refine az 8 ?_); refine bL.af rfl (.tmp 8) rfl g o rfl x C0.out ?_)
  | ((with_reducible refine ag 2 9 ?_); refine bL.aj rfl (.tmp 2) (.tmp 9) rfl rfl w.heap.size x rfl rfl 26 _ (bg (g := w.heap.size) 26 _ (by simp)) rfl ?_; intro w7 o7 b7))
 exact bodyPost_ret (aU rfl _ _ w.heap.size 26 _ (0, 0) _ rfl b7 Tryz.underlying26 rfl (by rw [bL.arr]; kernel_rfl)) rfl ⟨rfl, ((Below.refl _ _).alloc (Nat.le_refl _) _).trans (o7.below (by simp))⟩
theorem GU (N half : Nat) (h : N = half * 2) (hb : half ≤ 524288) (h0 : 0 < half) : ((N : Int) == 1) = false ∧ wrap64 (half : Int) = (half : Int) ∧ (N : Int).tdiv 2 = (half : Int) := by
 refine ⟨beq_eq_false_iff_ne.mpr (by omega), by unfold wrap64; omega, ?_⟩
 rw [Int.tdiv_eq_ediv_of_nonneg (by omega)]
 omega
theorem Ef (m : Nat) (hm : m + 1 ≤ 20)
 (ih : ∀ (A : Option Addr) (c : Nat) (l : List aS) (w : World), aK ak 32 w w.heap.size A c l → l.length = 2 ^ m → aM w → Calls Tryz.prog 17 #[.slice A l.length c] w fun e w' => e = .returned (.agg (ak (qo m l)).toArray) ∧ Below w.heap.size w w')
 (A : Option Addr) (c : Nat) (l : List aS) (w : World) (hl : aK ak 32 w w.heap.size A c l) (hn : l.length = 2 ^ (m + 1)) (hR : aM w) :
 Calls Tryz.prog 17 #[.slice A l.length c] w fun e w' => e = .returned (.agg (ak (qo (m + 1) l)).toArray) ∧ Below w.heap.size w w' := by
 have HR := qh hR
 have hp2 : 2 ^ m ≤ 524288 := Nat.le_trans (Nat.pow_le_pow_right (by decide) (show m ≤ 19 by omega)) (by decide)
 have hp3 := Nat.two_pow_pos m
 rw [Nat.pow_succ] at hn
 have hle := hl.le
 obtain ⟨half, yS⟩ : ∃ half, 2 ^ m = half := ⟨_, rfl⟩
 have HE := qh (show fC (qo m (l.take half)) (qo m (l.drop half)) = qo (m + 1) l by rw [← yS]; rfl)
 have ihA : ∀ (A : Option Addr) (c : Nat) (l : List aS) (w : World), aK ak 32 w w.heap.size A c l → l.length = half → aM w → Calls Tryz.prog 17 #[.slice A l.length c] w fun e w' => e = .returned (.agg (ak (qo m l)).toArray) ∧ Below w.heap.size w w' := by rw [← yS]; exact ih
 rw [yS] at hn hp2 hp3
 have hs1 : ∀ W, (Instr.slice 22 (.slice A l.length c) none (some (.int .i64 (half : Int))) none).run Tryz.prog W = .ok (.slice A half c) W := fun W => eH.tT W A l.length c half (by omega)
 have hs2 : ∀ W, (Instr.slice 22 (.slice A l.length c) (some (.int .i64 (half : Int))) none none).run Tryz.prog W = .ok (.slice (iN 32 c half A) (l.length - half) (c - half)) W := fun W => eH.fG W A l.length c half (by omega)
 rw [show l.length - half = half by omega] at hs2
 have e1 : (l.take half).length = half := by rw [List.length_take]; omega
 have e2 : (l.drop half).length = half := by rw [List.length_drop]; omega
 have L1 := qh (show ∀ W, Below w.heap.size w W → Calls Tryz.prog 17 #[.slice A half c] W fun e w' => e = .returned (.agg (ak (qo m (l.take half))).toArray) ∧ Below W.heap.size W w' from fun W hb => by
  have := ihA A c (l.take half) W (((hl.below hb).more hb.size).take aC half) e1 (hR.on _ hb)
  rwa [e1] at this)
 have L2 := qh (show ∀ W, Below w.heap.size w W → Calls Tryz.prog 17 #[.slice (iN 32 c half A) half (c - half)] W fun e w' => e = .returned (.agg (ak (qo m (l.drop half))).toArray) ∧ Below W.heap.size W w' from fun W hb => by
  have := ihA (iN 32 c half A) (c - half) (l.drop half) W (((hl.below hb).more hb.size).drop aC half (by omega)) e2 (hR.on _ hb)
  rwa [e2] at this)
 obtain ⟨ka, hka⟩ : ∃ ka, qo m (l.take half) = ka := ⟨_, rfl⟩
 obtain ⟨kb, hkb⟩ : ∃ kb, qo m (l.drop half) = kb := ⟨_, rfl⟩
 rw [hka] at L1 HE
 rw [hkb] at L2 HE
 obtain ⟨kc, hkc⟩ : ∃ kc, qo (m + 1) l = kc := ⟨_, rfl⟩
 rw [hkc] at HE ⊢
 obtain ⟨N, hN⟩ : ∃ N, l.length = N := ⟨_, rfl⟩
 rw [hN] at hs1 hs2 hn ⊢
 obtain ⟨hd, hwh, hq2⟩ := GU N half hn hp2 hp3
 clear hl hle e1 e2 hka hkb hkc ih ihA hp2 hp3 yS hR hN hn
 go_enter Tryz.func17, Tryz.ntmps17
 go_wp2_with fail
 have B0 := qh (show Below w.heap.size w (w.alloc (.cells (ak ai).toArray 26)) from (Below.refl _ _).alloc (Nat.le_refl _) _)
 have R0 := qh (ax.new w 26 (ak ai).toArray)
 obtain ⟨W0, hW0⟩ : ∃ W0, (w.alloc (.cells (ak ai).toArray 26)) = W0 := ⟨_, rfl⟩
 rw [hW0] at B0 R0
 change Code.wp _ _ _ _ (w.alloc (.cells (ak ai).toArray 26))
 rw [hW0]
 clear hW0
 have FR := qh (show Below w.heap.size w W0.drew from B0.out.drew)
 refine wp_region_held_drew (S := fun _ => True) (by kernel_rfl) trivial ?_
 intro hS
 refine tkp 0 (.slice A N c) rfl hS ?_
 go_simp
 refine tkp 1 (.int .i64 half) rfl hS ?_
 go_simp
 refine tkp 2 (.slice A half c) rfl hS ?_
 go_simp
 refine tkp 4 (.slice A N c) rfl hS ?_
 go_simp
 refine tkp 5 (.int .i64 half) rfl hS ?_
 go_simp
 refine tkp 6 (.slice (iN 32 c half A) half (c - half)) rfl hS ?_
 go_simp
 refine rd 3 rfl (fun Kq hK => ?_)
 go_simp
 with_reducible refine (L1.out _ FR.out).mono ?_
 rintro e x1 ⟨rfl, b1⟩
 have B1 := qh (FR.out.trans (b1.mono FR.out.size))
 have R1 := qh (aa b1 R0.out R0.out.lt)
 refine hK.out _ _ trivial (fun hS => ?_)
 clear hK Kq b1
 refine rd 7 rfl (fun Kq hK => ?_)
 go_simp
 with_reducible refine (L2.out _ B1.out).mono ?_
 rintro e x2 ⟨rfl, b2⟩
 have B2 := qh (B1.out.trans (b2.mono B1.out.size))
 have R2 := qh (aa b2 R1.out R1.out.lt)
 refine hK.out _ _ trivial (fun hS => ?_)
 clear hK Kq b2
 refine rd 8 rfl (fun Kq hK => ?_)
 go_simp
 with_reducible refine (qI ka kb _ (HR.out.on _ B2.out)).mono ?_
 rintro e x3 ⟨rfl, b3⟩
 rw [HE.out]
 have B3 := qh (B2.out.trans (b3.mono B2.out.size))
 have R3 := qh (aa b3 R2.out R2.out.lt)
 refine hK.out _ _ trivial (fun hS => ?_)
 clear hK Kq b3
 refine rd 9 rfl (fun Kq hK => ?_)
 refine bL.aH rfl (.tmp 2) (.tmp 21) rfl rfl w.heap.size kc rfl rfl 26 _ R3.out (by rw [bL.arr]) ?_
 intro w4 o4 b4
 have B4 := qh (B3.out.trans (o4.below (by simp)))
 refine hK.out _ _ trivial (fun _ => ?_)
 clear hK Kq hS
 refine wpAnyH_done (by kernel_rfl) ?_ _
 go_wp2_with fail
 exact bodyPost_ret (aU rfl _ _ w.heap.size 26 _ (0, 0) _ rfl b4 Tryz.underlying26 rfl (by rw [bL.arr]; kernel_rfl)) rfl ⟨rfl, B4.out⟩
theorem Nr (h : Nat) (hh : h ≤ 20) : ∀ (A : Option Addr) (c : Nat) (l : List aS) (w : World), aK ak 32 w w.heap.size A c l → l.length = 2 ^ h → aM w →
 Calls Tryz.prog 17 #[.slice A l.length c] w fun e w' => e = .returned (.agg (ak (qo h l)).toArray) ∧ Below w.heap.size w w' := by
 induction h with
 | zero => exact fun A c l w hl hn _ => Gs A c l w hl (by simpa using hn)
 | succ m ih => exact fun A c l w hl hn hR => Ef m hh (ih (by omega)) A c l w hl hn hR
end
section
open Go.RowKit
theorem cu.DF {α : Type} {enc : α → List Value} {k : Nat} {P : Program} {t e : TypeId} (T : cu P t e enc k) (w : World) (A : Option Addr) (n c i j : Nat) (hi : i ≤ j) (hj : j ≤ c) :
 (Instr.slice t (.slice A n c) (some (.int .u32 (i : Int))) (some (.int .u32 (j : Int))) none).run P w = .ok (.slice (iN k c i A) (j - i) (c - i)) w := by
 have he : P.elem t = e := by simp [Program.elem, T.slice]
 rw [run_slice_lh w t A n c (by rw [he]; exact T.slice) .u32 .u32 i j (by omega) (by omega) (by omega), he, T.sizeOf]
 simp only [Result.andThen_ok, sliced, Int.toNat_natCast, iN]
theorem Kb (l : List aS) (n : Nat) (hl : l.length ≤ 100) (hb : gJ l.length n = true) :
 ∃ q fr tq : Nat, 2 ^ n = q ∧ Nk l n = qo n ((l.drop fr).take q) ∧ tq ≤ l.length ∧ fr + q = tq ∧ n < 20 ∧ (l.length : Int) / 2 ^ (n + 1) * 2 ^ (n + 1) % 4294967296 = (fr : Int) ∧ IntKind.u32.wrap ((2 : Int) ^ n) = (q : Int) ∧ IntKind.u32.wrap ((fr : Int) + q) = (tq : Int) := by
 have hp : Nk l n = qo n ((l.drop (l.length - l.length % 2 ^ (n + 1))).take (2 ^ n)) := by
  show partOf fC ai l n = _
  unfold partOf
  rw [if_pos hb]
 have hm := kN l.length n
 rw [hb, if_pos rfl] at hm
 have aap := uB l.length (n + 1)
 have hdm := Nat.div_add_mod' l.length (2 ^ (n + 1))
 have XY : n < 20 := by
  rcases Nat.lt_or_ge n 20 with h | h
  ·exact h
  ·have h1 : 2 ^ 20 ≤ 2 ^ n := Nat.pow_le_pow_right (by decide) h
   have h2 : (100 : Nat) < 2 ^ 20 := by decide
   omega
 have e1 : (l.length : Int) / 2 ^ (n + 1) * 2 ^ (n + 1) = ((l.length / 2 ^ (n + 1) * 2 ^ (n + 1) : Nat) : Int) := by norm_cast
 have e2 : (2 : Int) ^ n = ((2 ^ n : Nat) : Int) := by norm_cast
 rw [e1, e2]
 clear hb
 generalize l.length / 2 ^ (n + 1) * 2 ^ (n + 1) = f at hdm e1 ⊢
 generalize l.length % 2 ^ (n + 1) = r at hm aap hdm hp
 generalize l.length % 2 ^ n = r2 at hm
 generalize 2 ^ n = q at hm hp e2 ⊢
 clear e1 e2
 refine ⟨q, l.length - r, l.length - r + q, rfl, hp, by omega, rfl, XY, by omega, ?_, ?_⟩
 ·rw [IntKind.wrap_u32']; omega
 ·rw [IntKind.wrap_u32']; omega
theorem Np (A : Option Addr) (c : Nat) (l : List aS) (n : Nat) (hn : n < 32) (hl : l.length ≤ 100) (hb : gJ l.length n = true) (gn gl : Nat) (w : World)
 (hN : ax w gn 24 #[.int .u32 l.length]) (hL : ax w gl 22 #[.slice A l.length c]) (hrow : aK ak 32 w w.heap.size A c l) (hR : aM w) :
 Calls Tryz.prog 16 #[.int .i64 n, .pointer (some ⟨gn, 0, none⟩), .pointer (some ⟨gl, 0, none⟩)] w fun e w' => e = .returned (.agg (ak (Nk l n)).toArray) ∧ Below w.heap.size w w' := by
 have HR := qh hR
 obtain ⟨q, fr, tq, hq, hpt, hfq, hto, XY, h1, h2, h3⟩ := Kb l n hl hb
 have hle := hrow.le
 have hsl : ∀ W, (Instr.slice 22 (.slice A l.length c) (some (.int .u32 (fr : Int))) (some (.int .u32 (tq : Int))) none).run Tryz.prog W = .ok (.slice (iN 32 c fr A) q (c - fr)) W := fun W => by
  have := eH.DF W A l.length c fr tq (by omega) (by omega)
  rwa [show tq - fr = q by omega] at this
 have hlen : ((l.drop fr).take q).length = q := by rw [List.length_take, List.length_drop]; omega
 have HW := qh (show ∀ W, Below w.heap.size w W → Calls Tryz.prog 17 #[.slice (iN 32 c fr A) q (c - fr)] W fun e w' => e = .returned (.agg (ak (Nk l n)).toArray) ∧ Below W.heap.size W w' from fun W hbw => by
  have := Nr n (by omega) (iN 32 c fr A) (c - fr) ((l.drop fr).take q) W ((((hrow.below hbw).more hbw.size).drop aC fr (by omega)).take aC q) (by rw [hlen, hq]) (hR.on _ hbw)
  rwa [hlen, ← hpt] at this)
 have hge : (0 : Int) ≤ (n : Int) := by omega
 have hi1 : (n : Int) < 32 := by omega
 have hi2 : (0 : Int) ≤ (n : Int) + 1 := by omega
 have hw1 : IntKind.i64.wrap ((n : Int) + 1) = (n : Int) + 1 := by rw [IntKind.wrap_i64]; omega
 have c1 : ∀ ob, (w.alloc ob).cell? ⟨gn, 0, none⟩ = some (.int .u32 l.length) := fun ob => (hN.alloc ob).cell 0
 have CL := qh (show ∀ ob, (w.alloc ob).cell? ⟨gl, 0, none⟩ = some (.slice A l.length c) from fun ob => (hL.alloc ob).cell 0)
 have GL := qh hL.lt
 obtain ⟨N, hN'⟩ : ∃ N, l.length = N := ⟨_, rfl⟩
 obtain ⟨kc, hkc⟩ : ∃ kc, Nk l n = kc := ⟨_, rfl⟩
 rw [hkc] at HW ⊢
 rw [hN'] at hsl h1 c1 CL
 clear hrow hle hlen hfq hto hpt hkc hq hl hb hN hL hR hN'
 go_enter Tryz.func16, Tryz.ntmps16
 go_wp2_with fail
 rw [h1]
 have B0 := qh (show Below w.heap.size w (w.alloc (.cells (ak ai).toArray 26)) from (Below.refl _ _).alloc (Nat.le_refl _) _)
 have R0 := qh (ax.new w 26 (ak ai).toArray)
 have C0 := qh (CL.out (.cells (ak ai).toArray 26))
 obtain ⟨W0, hW0⟩ : ∃ W0, (w.alloc (.cells (ak ai).toArray 26)) = W0 := ⟨_, rfl⟩
 rw [hW0] at B0 R0 C0
 change Code.wp _ _ _ _ (w.alloc (.cells (ak ai).toArray 26))
 rw [hW0]
 clear hW0 CL c1
 have FR := qh (show Below w.heap.size w W0.drew from B0.out.drew)
 refine wp_region_held_drew (S := fun W => W.cell? ⟨gl, 0, none⟩ = some (.slice A N c)) (by kernel_rfl) C0.out ?_
 intro hS
 refine tk 0 (.slice A N c) rfl (Or.inl ⟨by rfl, fun W hSW => by have aaT : W.cell? ⟨gl, 0, none⟩ = some (.slice A N c) := hSW; go_simp⟩) hS ?_
 go_simp
 refine tkp 1 (.int .u32 fr) rfl hS ?_
 go_simp
 refine tkp 2 (.int .u32 fr) rfl hS ?_
 go_simp
 refine tkp 3 (.int .i64 n) rfl hS ?_
 go_simp
 refine tkp 4 (.int .u32 q) rfl hS ?_
 go_simp
 refine tkp 5 (.int .u32 tq) rfl hS ?_
 go_simp
 refine tkp 6 (.slice (iN 32 c fr A) q (c - fr)) rfl hS ?_
 go_simp
 refine rd 7 rfl (fun Kq hK => ?_)
 go_simp
 with_reducible refine (HW.out _ FR.out).mono ?_
 rintro e x1 ⟨rfl, b1⟩
 have B1 := qh (FR.out.trans (b1.mono FR.out.size))
 have R1 := qh (aa b1 R0.out R0.out.lt)
 have C1 := qh (show x1.cell? ⟨gl, 0, none⟩ = some (.slice A N c) from by rw [b1.cell (show gl < W0.drew.heap.size by have := GL.out; have := FR.out.size; omega)]; exact C0.out)
 refine hK.out _ _ C1.out (fun hS => ?_)
 clear hK Kq b1
 refine rd 8 rfl (fun Kq hK => ?_)
 refine bL.aH rfl (.tmp 4) (.tmp 20) rfl rfl w.heap.size kc rfl rfl 26 _ R1.out (by rw [bL.arr]) ?_
 intro w4 o4 b4
 have B4 := qh (B1.out.trans (o4.below (by simp)))
 refine hK.out _ _ (by rw [o4.cell (by have := GL.out; simp; omega)]; exact C1.out) (fun _ => ?_)
 clear hK Kq hS
 refine wpAnyH_done (by kernel_rfl) ?_ _
 go_wp2_with fail
 exact bodyPost_ret (aU rfl _ _ w.heap.size 26 _ (0, 0) _ rfl b4 Tryz.underlying26 rfl (by rw [bL.arr]; kernel_rfl)) rfl ⟨rfl, B4.out⟩
end
section
open Go.RowKit
structure Wh (w : World) (Z : Array Value) (A : Option Addr) (c N : Nat) (t : fD) (W : World) : Prop where
 below : Below w.heap.size w W
 l : ax W w.heap.size 22 #[.slice A N c]
 r : ax W (w.heap.size + 1) 29 Z
 n : ax W (w.heap.size + 1 + 1) 24 #[.int .u32 N]
 t : ax W (w.heap.size + 1 + 1 + 1) 29 t.cells.toArray
theorem Wh.call {w W W' : World} {Z : Array Value} {A : Option Addr} {c N : Nat} {t : fD} (h : Wh w Z A c N t W) (hb : Below W.heap.size W W') : Wh w Z A c N t W' :=
 ⟨h.below.trans (hb.mono h.below.size), aa hb h.l h.l.lt, aa hb h.r h.r.lt, aa hb h.n h.n.lt, aa hb h.t h.t.lt⟩
theorem Uw : YC := by
 intro A c l hn w hl hR
 have HR := qh hR
 obtain ⟨Z, hZ, hz, hzs, hzn⟩ := bB gY jJ
 have HS := qh hzs
 have HL := qh hl
 have HN := qh hn
 have h32 : l.length < 4294967296 := by omega
 rw [← Sq l h32]
 have H32 := qh h32
 have hcv : IntKind.u64.wrap (l.length : Int) = (l.length : Int) := by rw [IntKind.wrap_u64]; omega
 have hmin : min (l.length : Int) 4294967295 = (l.length : Int) := by omega
 have hc2 : IntKind.u32.wrap (l.length : Int) = (l.length : Int) := by rw [IntKind.wrap_u32']; omega
 have HT := qh (show Below w.heap.size w (((w.alloc (.cells #[.slice A l.length c] 22)).alloc (.cells Z 29)).alloc (.cells #[.int .u32 l.length] 24)) from (((Below.refl w.heap.size w).alloc (Nat.le_refl _) _).alloc (by simp) _).alloc (by simp <;> omega) _)
 have UY := qh (show ax (((w.alloc (.cells #[.slice A l.length c] 22)).alloc (.cells Z 29)).alloc (.cells #[.int .u32 l.length] 24)) w.heap.size 22 #[.slice A l.length c] from ((ax.new w 22 #[.slice A l.length c]).alloc _).alloc _)
 have HR0 := qh (show ax (((w.alloc (.cells #[.slice A l.length c] 22)).alloc (.cells Z 29)).alloc (.cells #[.int .u32 l.length] 24)) (w.heap.size + 1) 29 Z from (bg (w := w.alloc (.cells #[.slice A l.length c] 22)) (g := w.heap.size + 1) 29 Z (by simp)).alloc _)
 have HU0 := qh (show ax (((w.alloc (.cells #[.slice A l.length c] 22)).alloc (.cells Z 29)).alloc (.cells #[.int .u32 l.length] 24)) (w.heap.size + 1 + 1) 24 #[.int .u32 l.length] from bg (g := w.heap.size + 1 + 1) 24 _ (by simp))
 clear hZ hzs hl hR hn
 have ED : ∀ (fn : Fn) (first cap : Array Value) (w : World), (Instr.makeFunc fn first cap).run Tryz.prog w = .ok (.func fn first cap) w := fun _ _ _ _ => rfl
 go_enter Tryz.func6, Tryz.ntmps6
 go_wp2_with (first
  | ((with_reducible refine bW 13 ?_); refine bu rfl 29 #[(0, .tmp 12)] rfl (FP l 0 (by omega) H32.out).cells.toArray (by kernel_rfl) ?_)
  | ((with_reducible refine ag 4 13 ?_); refine gz.aj rfl (.tmp 4) (.tmp 13) rfl rfl (w.heap.size + 1 + 1 + 1) (FP l 0 (by omega) H32.out) rfl rfl 29 Z (bg (g := w.heap.size + 1 + 1 + 1) 29 Z (by simp)) (by rw [HS.out]) ?_; intro w2 o2 b2
     have S0 := qh (show Wh w Z A c l.length (FP l 0 (by omega) H32.out) w2 from ⟨(HT.out.alloc (by simp <;> omega) _).trans (o2.below (by simp <;> omega)), o2.blk (UY.out.alloc _) (by simp <;> omega), o2.blk (HR0.out.alloc _) (by simp <;> omega), o2.blk (HU0.out.alloc _) (by simp), b2⟩)
     clear o2 b2))
 clear hz hzn hcv hmin hc2 HT UY HR0 HU0 ED
 go_loopw [15] (fun i wr => ∃ (n : Nat) (hn : n ≤ 32), i = .int .i64 n ∧ Hid (Wh w Z A c l.length (FP l n hn h32) wr)) (fun i _ => 32 - (intOf i).toNat)
 case atStart => exact ⟨0, by omega, rfl, S0⟩
 case round =>
  clear S0
  obtain ⟨n, hn, rfl, AS⟩ := hrel
  by_cases hlt : n < 32
  ·have hd : decide ((n : Int) < 32) = true := by simp; omega
   have hge : (0 : Int) ≤ (n : Int) := by omega
   have hi1 : (n : Int) < 32 := by omega
   have c0 : wr.cell? ⟨w.heap.size + 1 + 1, 0, none⟩ = some (.int .u32 l.length) := AS.out.n.cell 0
   obtain ⟨r, hr⟩ : ∃ r, gJ l.length n = r := ⟨_, rfl⟩
   have HC := qh (xK l.length n h32 hlt r hr wr)
   go_wp2_with fail
   refine HC.out.mono ?_
   rintro e wq ⟨rfl, rfl⟩
   clear HC
   cases hq : r with
   | true =>
    subst hq
    have HP := qh (Np A c l n hlt HN.out hr (w.heap.size + 1 + 1) w.heap.size wq AS.out.n AS.out.l ((HL.out.below AS.out.below).more AS.out.below.size) (HR.out.on _ AS.out.below))
    clear hr
    go_wp2_with fail
    refine HP.out.mono ?_
    rintro e x1 ⟨rfl, b1⟩
    have A1 := qh (AS.out.call b1)
    clear b1 HP c0
    go_wp2_with ((with_reducible refine ag 26 24 ?_); refine bL.dO rfl (.tmp 26) (.tmp 24) rfl rfl (w.heap.size + 1 + 1 + 1) (1 + n * 32) (Nk l n) rfl rfl 29 _ A1.out.t (by rw [fD.len]; omega) ?_; intro w5 o5 b5; rw [fD.tV _ n hlt, Sn l n hlt h32] at b5
                 have A5 := qh (show Wh w Z A c l.length (FP l (n + 1) (by omega) h32) w5 from ⟨A1.out.below.trans (o5.below (by simp <;> omega)), o5.blk A1.out.l (by simp <;> omega), o5.blk A1.out.r (by simp <;> omega), o5.blk A1.out.n (by simp), b5⟩)
                 clear o5 b5)
    go_roundw
    case rel => exact ⟨n + 1, by omega, by go_num, A5⟩
    case measure => simp [intOf]; omega
   | false =>
    subst hq
    have S1 := qh (show Wh w Z A c l.length (FP l (n + 1) (by omega) h32) wq from by rw [← ND l n hlt h32 hr]; exact AS.out)
    clear hr
    go_wp2_with fail
    go_roundw
    case rel => exact ⟨n + 1, by omega, by go_num, S1⟩
    case measure => simp [intOf]; omega
  ·obtain rfl : n = 32 := by omega
   go_wp2_with (first
    | ((with_reducible refine az 4 ?_); refine gz.af rfl (.tmp 4) rfl (w.heap.size + 1 + 1 + 1) 0 rfl (FP l 32 hn h32) (by simpa using au.ah AS.out.t) ?_)
    | ((with_reducible refine ag 2 28 ?_); refine gz.aj rfl (.tmp 2) (.tmp 28) rfl rfl (w.heap.size + 1) (FP l 32 hn h32) rfl rfl 29 Z AS.out.r (by rw [HS.out]) ?_; intro w7 o7 b7))
   exact bodyPost_ret (aU rfl _ _ (w.heap.size + 1) 29 _ (0, 0) _ rfl b7 Tryz.underlying29 rfl (by rw [gz.arr]; kernel_rfl)) rfl ⟨rfl, AS.out.below.trans (o7.below (by simp))⟩
end
section
open Go.RowKit
theorem yz : ∀ (k : aS) (w : World), Calls Tryz.prog 8 #[.agg (ak k).toArray] w fun e w' => ∃ A c, e = .returned (.agg #[.slice A 1 c]) ∧ w'.ownsRow w.heap.size 26 32 (.slice A 1 c) 1 (cellsOf ak [k]) ∧ Below w.heap.size w w' := by
 intro k w
 have HP := qh (show ∀ W, Calls Tryz.prog 7 #[.agg #[.slice none 0 0], .agg (ak k).toArray] W fun e w' => ∃ A' c', e = .returned (.agg #[.slice A' 1 c']) ∧ w'.ownsRow W.heap.size 26 32 (.slice A' 1 c') 1 (cellsOf ak [k]) ∧ Below W.heap.size W w' from fun W => Aw none 0 [] k W (by decide) (aK.nil (Nat.zero_le _)))
 have B0 := qh (show Below w.heap.size w ((w.alloc (.cells (ak k).toArray 26)).alloc (.cells #[.slice none 0 0] 35)) from ((Below.refl w.heap.size w).alloc (Nat.le_refl _) _).alloc (by simp) _)
 have K0 := qh (show ax ((w.alloc (.cells (ak k).toArray 26)).alloc (.cells #[.slice none 0 0] 35)) w.heap.size 26 (ak k).toArray from (ax.new w 26 (ak k).toArray).alloc _)
 have R0 := qh (show ax ((w.alloc (.cells (ak k).toArray 26)).alloc (.cells #[.slice none 0 0] 35)) (w.heap.size + 1) 35 #[.slice none 0 0] from bg (g := w.heap.size + 1) 35 #[.slice none 0 0] (by simp))
 go_enter Tryz.func8, Tryz.ntmps8
 go_wp2_with ((with_reducible refine az 1 ?_); refine bL.af rfl (.tmp 1) rfl w.heap.size 0 rfl k (au.ah K0.out) ?_)
 with_reducible refine (HP.out _).mono ?_
 rintro e w2 ⟨A, c, rfl, r2, b2⟩
 have I2 := qh (aW r2 B0.out.size)
 have R2 := qh (aa b2 R0.out R0.out.lt)
 have B2 := qh (B0.out.trans (b2.mono (by simp; omega)))
 clear r2 b2 B0 K0 R0
 go_wp2_with ((with_reducible refine ag 2 5 ?_); refine rV.aj rfl (.tmp 2) (.tmp 5) rfl rfl (w.heap.size + 1) (A, 1, c) rfl rfl 35 _ R2.out rfl ?_; intro w7 o7 b7)
 refine bodyPost_ret (kK rfl _ _ (w.heap.size + 1) 35 _ _ rfl b7 Zg rfl (by kernel_rfl)) rfl ⟨A, c, rfl, aI I2.out o7 R2.out (by decide), B2.out.trans (o7.below (by simp))⟩
theorem Sm (h : ([] : List aS).length < 4294967296) : LU [] h = zT := by
 refine fD.ext' ?_
 rw [Ej]
 have h2 : ∀ i, partOf fC ai ([] : List aS) i = ai := fun i => Av fC ai [] i (by unfold gJ; simp)
 have h3 : (List.range 32).map (partOf fC ai ([] : List aS)) = List.replicate 32 ai := by
  rw [List.eq_replicate_iff]
  exact ⟨by simp, fun b hb => by obtain ⟨i, _, rfl⟩ := List.mem_map.1 hb; exact h2 i⟩
 show (⟨0, (List.range 32).map (partOf fC ai [])⟩ : rO aS) = ⟨0, List.replicate 32 ai⟩
 rw [h3]
theorem yY (place : Nat → Option (Nat × Nat)) (i : Nat) (v : Value) (pre mid post : List Value) (r : List (Nat × Value)) (hp : place i = some (pre.length, v.cells.size)) (h2 : mid.length = v.cells.size) :
 Instr.fill place (pre ++ mid ++ post).toArray ((i, v) :: r) = Instr.fill place (pre ++ v.cells.toList ++ post).toArray r := by
 conv => lhs; unfold Instr.fill
 simp only [hp]
 rw [if_neg (by simp; omega)]
 have hf := foldl_set v.cells.toList 0 pre.length (pre ++ mid ++ post).toArray (by simp; omega)
 rw [← Array.foldl_toList, Array.toList_zipIdx]
 rw [show (fun (cs : Array Value) (x : Value × Nat) => match x with | (c, j) => cs.setIfInBounds (pre.length + j) c) = (fun cs p => cs.setIfInBounds (pre.length + p.2) p.1) from rfl, hf]
 congr 2
 simp only [Nat.add_zero, List.append_assoc, List.take_left', Array.length_toList]
 rw [← List.append_assoc pre mid post, List.drop_left' (by rw [List.length_append, h2])]
def EJ : List Value := .int .u32 0 :: (ak ai ++ [.slice none 0 0, .slice none 0 0])
theorem PI : EJ.length = 35 := by
 unfold EJ
 rw [List.length_cons, List.length_append, aC]
 rfl
theorem AV (A : Option Addr) (ring : List aS) (c : Nat) : EJ ++ zT.cells ++ [.slice A ring.length c, .int .i64 0, .slice none 0 0] = (⟨{ Sy with ring := ring }, none, 0, none, 0, A, c⟩ : eT).cells none 0 0 := by
 unfold EJ eT.cells
 simp only [List.cons_append, List.append_assoc, List.nil_append]
 rfl
theorem Fw {P : Program} {t : TypeId} {fields : Array Field} {places : List (Nat × Nat)} {parts : List (Nat × Value)} {z : Value}
 (hz : (P.info? t).bind (·.zero) = some z) (hu : P.underlying t = some (.struct fields))
 (hp : fields.toList.mapM (fun f => (P.info? f.type).map fun i => (f.offset, i.size)) = some places) : P.built t parts = Instr.fill (places.toArray[·]?) z.cells parts := by
 cases hi : P.info? t with
 | none => rw [hi] at hz; cases hz
 | some it =>
  rw [hi, Option.bind_some] at hz
  unfold Program.built
  simp only [hi, hu, hz, hp]
theorem KD (A : Option Addr) (c : Nat) (t : TypeId) (ht : t = 45) : Tryz.prog.built t [(4, .agg zT.cells.toArray), (5, .agg #[.slice A 1 c])] = some (qZ A c).cells.toArray := by
 subst ht
 have e := Fw (parts := [(4, .agg zT.cells.toArray), (5, .agg #[.slice A 1 c])]) (places := [(0, 1), (1, 32), (33, 1), (34, 1), (35, 1025), (1060, 1), (1061, 1), (1062, 1)]) dZ Tryz.underlying45 (by kernel_rfl)
 rw [e]
 have h0 : yE.cells = EJ ++ zT.cells ++ [.slice none 0 0, .int .i64 0, .slice none 0 0] := (AV none [] 0).symm
 have h4 : EJ ++ zT.cells ++ [.slice A 1 c, .int .i64 0, .slice none 0 0] = (qZ A c).cells := AV A [pF zT 32] c
 have hl := zT.len
 show Instr.fill _ yE.cells.toArray _ = _
 rw [h0, ← h4]
 clear e h0 h4
 generalize zT.cells = Tz at hl ⊢
 have hg : EJ.length = 35 := PI
 generalize EJ = G at hg ⊢
 rw [yY _ 4 (.agg Tz.toArray) G Tz _ _ (by rw [hg]; show some (35, 1025) = some (35, Tz.toArray.size); rw [List.size_toArray, hl]) (by show Tz.length = Tz.toArray.size; rw [List.size_toArray])]
 have hl2 : (G ++ Tz).length = 1060 := by rw [List.length_append, hg, hl]
 have h3 := yY (([(0, 1), (1, 32), (33, 1), (34, 1), (35, 1025), (1060, 1), (1061, 1), (1062, 1)] : List (Nat × Nat)).toArray[·]?) 5 (.agg #[.slice A 1 c]) (G ++ Tz) [.slice none 0 0] [.int .i64 0, .slice none 0 0] [] (by rw [hl2]; rfl) rfl
 rw [show G ++ (Value.agg Tz.toArray).cells.toList ++ [Value.slice none 0 0, .int .i64 0, .slice none 0 0] = G ++ Tz ++ [.slice none 0 0] ++ [.int .i64 0, .slice none 0 0] by simp [Value.cells], h3]
 simp [Value.cells, Instr.fill]
theorem Ve (w : World) (hR : aM w) : Calls Tryz.prog 29 #[] w fun e w' => ∃ A c, e = .returned (.agg (qZ A c).cells.toArray) ∧ nC w.heap.size w' (qZ A c) ∧ Below w.heap.size w w' := by
 obtain ⟨Z, hZ, hz, hzs, hzn⟩ := bB dZ fQ
 obtain ⟨Y, hY, hy, hys, hyn⟩ := bB gY jJ
 have HS := qh (And.intro hzs hys)
 have HH := qh (show Holds w [(w.heap.size, 45, Z)] (w.alloc (.cells Z 45)) from (Holds.nil w).box 45 Z)
 have RO := qh (show ∀ V, Below w.heap.size w V → aM V from fun _ hb => aM.below hR hb (aM.sH hR) (aM.qL hR))
 have OF := qh (fun V (r : aM V) => show Calls Tryz.prog 6 #[.slice none 0 0] V fun e w' => e = .returned (.agg zT.cells.toArray) ∧ Below V.heap.size V w' from Sm (by decide) ▸ Uw none 0 [] (by decide) V (aK.nil (Nat.zero_le _)) r)
 clear hZ hzs hY hys hR
 go_enter Tryz.func29, Tryz.ntmps29
 go_wp2_with fail
 refine (OF.out _ (RO.out _ HH.out.below)).mono ?_
 rintro e w1 ⟨rfl, bq⟩
 have H1 := qh (HH.out.call bq)
 clear bq HH OF
 go_wp2_with ((with_reducible refine ag 1 2 ?_); refine gz.aj rfl (.tmp 1) (.tmp 2) rfl rfl w1.heap.size zT rfl rfl 29 _ (ax.new _ _ _) (by rw [HS.out.2]) ?_; intro w2 o2 b2; have H2 := qh (H1.out.put o2 b2); clear o2 b2 H1)
 obtain ⟨g1, hg1⟩ : ∃ g1, w1.heap.size = g1 := ⟨_, rfl⟩
 rw [hg1] at H2 ⊢
 clear hg1
 have HG1 := qh (show g1 ≠ w.heap.size from by
  intro h
  have h1 := H2.out.nS (g1, 29, zT.cells.toArray) (by simp)
  have h2 := H2.out.nS (w.heap.size, 45, Z) (by simp)
  subst h
  unfold ax at h1 h2
  rw [h1] at h2
  cases h2)
 refine wp_region_held_drew (S := fun V => Below w.heap.size w V ∧ ax V g1 29 zT.cells.toArray ∧ ∃ cs, cs.size = 1063 ∧ ax V w.heap.size 45 cs) (by kernel_rfl) ⟨H2.out.below.drew, (H2.out.nS (g1, 29, zT.cells.toArray) (by simp)).drew, Z, HS.out.1, (H2.out.nS (w.heap.size, 45, Z) (by simp)).drew⟩ ?_
 clear H2
 intro hS
 refine tk 0 (.agg zT.cells.toArray) rfl (gz.aB (by rfl) (.tmp 1) rfl g1 0 rfl zT (fun _ h => au.ah h.2.1)) hS ?_
 go_simp
 refine tk 1 (.agg zT.cells.toArray) rfl (gz.aB (by rfl) (.tmp 1) rfl g1 0 rfl zT (fun _ h => au.ah h.2.1)) hS ?_
 go_simp
 have RT := qh (fun V (r : aM V) => uw zT V r)
 refine rd 2 rfl (fun Kq hK => ?_)
 go_simp
 with_reducible refine (RT.out _ (RO.out _ hS.1)).mono ?_
 rintro e x2 ⟨rfl, bq⟩
 refine hK.out _ _ ⟨hS.1.trans (bq.mono hS.1.size), aa bq hS.2.1 hS.2.1.lt, hS.2.2.imp fun cs h => ⟨h.1, aa bq h.2 h.2.lt⟩⟩ (fun hS => ?_)
 clear hK Kq bq RT
 go_simp
 refine rd 3 rfl (fun Kq hK => ?_)
 go_simp
 with_reducible refine (yz (pF zT 32) _).mono ?_
 rintro e x3 ⟨A, c, rfl, o3, bq⟩
 have O3 := qh (aW o3 hS.1.size)
 refine hK.out _ _ ⟨hS.1.trans (bq.mono hS.1.size), aa bq hS.2.1 hS.2.1.lt, hS.2.2.imp fun cs h => ⟨h.1, aa bq h.2 h.2.lt⟩⟩ (fun hS => ?_)
 clear hK Kq bq o3
 go_simp
 refine tk 4 (.agg (qZ A c).cells.toArray) rfl (bH (by rfl) 45 #[(4, .tmp 3), (5, .tmp 6)] rfl (qZ A c).cells.toArray ((congrArg (Tryz.prog.built 45) (show _ = [(4, Value.agg zT.cells.toArray), (5, Value.agg #[.slice A 1 c])] by kernel_rfl)).trans (KD A c 45 rfl))) hS ?_
 go_simp
 obtain ⟨hS1, hS2, cz, hcz, hbz⟩ := (show _ from hS)
 refine rd 5 rfl (fun Kq hK => ?_)
 refine cO.aH rfl (.tmp 0) (.tmp 7) rfl rfl w.heap.size (qZ A c) rfl rfl 45 _ hbz hcz ?_
 intro w9 o9 b9
 have B9 := qh (hS1.trans (o9.below (by simp)))
 have O9 := qh (aI O3.out o9 hbz (by decide))
 have K9 := qh b9
 refine hK.out _ _ ⟨B9.out, o9.blk hS2 (by have := HG1.out; simpa using this), _, cO.arr _, b9⟩ (fun _ => ?_)
 clear hK Kq hS o9 b9 hS1 hS2 hbz
 refine wpAnyH_done (by kernel_rfl) ?_ _
 go_wp2_with fail
 refine bodyPost_ret (aU rfl _ _ w.heap.size 45 _ (0, 0) _ rfl K9.out Tryz.underlying45 rfl (by rw [cO.arr]; kernel_rfl)) rfl ?_
 exact ⟨A, c, rfl, ⟨⟨World.ownsRow_nil _ _ _ _, World.ownsRow_nil _ _ _ _, O9.out⟩, World.ownsRow_nil _ _ _ _, fun _ h => absurd h List.not_mem_nil⟩, B9.out⟩
end
section
open Go.RowKit
theorem Vl : UR 30 := ⟨by decide, by decide, by decide, by decide, by decide, by decide⟩
structure Ww (d : CA) : Prop where
 c : kE d.c.C
 s : ∀ s ∈ d.past, LQ s
 p : d.past.length ≤ 900
end
section
open Go.Shelf Go.RowKit Go.Sort
instance : Inhabited bF := ⟨bZ⟩
theorem wT {P : Program} {fn : Func} {p q : Tmp} {t1 : TypeId} (h : fn.results = #[.cell p t1, .tmp q]) (tmps : Array Value) (w : World) (a : Addr) {x : Value} (hp : tmps.getD p undef = .pointer (some a))
 (hx : (loadVar t1 a).run P w = .ok x w) : (results fn tmps).run P w = .ok (.tuple #[x, tmps.getD q undef]) w := by
 have hp' : tmps[p]?.getD undef = .pointer (some a) := by simpa using hp
 simp [results, h, hp', asAddr, hx]
end
section
open Go.RowKit
theorem IL : UR 204 := ⟨by decide, by decide, by decide, by decide, by decide, by decide⟩
theorem ax.c0 {w : World} {g : Nat} {t : TypeId} {v : Value} (h : ax w g t #[v]) : w.cell? ⟨g, 0, none⟩ = some v := by
 have := h.cell 0
 simpa only [List.getElem?_toArray, List.getElem?_cons_zero] using this
end
section
open Go.RowKit
theorem JP (caps : Array Value) (W : World) : (callFunc 187 caps).run Tryz.prog W = .ok (.enter 187 caps) W := by simp [go_sem]
end
section
open Go.RowKit
structure kJ (B : bK) : Prop where
 n : B.bG.length ≤ 7
 t : ∀ T ∈ B.bG, FL T
theorem kJ.Zf {B : bK} (h : kJ B) : Gh B ≤ 14 := by
 unfold Gh
 have := BS (B.bG.map wQ) 2 (fun x hx => by
  obtain ⟨T, hT, rfl⟩ := List.mem_map.1 hx
  exact (h.t T hT).Zf)
 rw [List.length_map] at this
 have := h.n
 omega
theorem FL.Ru {T : dX} (h : FL T) : iy T := ⟨by have := h.i; omega, by have := h.o; omega, by have := h.n; omega, by have := h.t; omega⟩
theorem FL.OM {T : dX} (h : FL T) : sJ T = false := by
 have := h.i; have := h.o; have := h.n; have := h.t
 unfold sJ
 rw [decide_eq_false_iff_not]
 omega
theorem Em : ∀ l : List dX, (∀ T ∈ l, FL T) → (dz l).length ≤ l.length
 | [], _ => Nat.le_refl _
 | T :: l, h => by
  have ih := Em l (fun U hU => h U (List.mem_cons_of_mem _ hU))
  have h1 := (h T (List.mem_cons_self ..)).t
  show (List.flatMap (·.notes) (T :: l)).length ≤ _
  rw [List.flatMap_cons, List.length_append, List.length_cons]
  have : (List.flatMap (·.notes) l).length ≤ l.length := ih
  omega
theorem kJ.OM {B : bK} (h : kJ B) : ku B = false := by
 unfold ku
 rw [Bool.or_eq_false_iff]
 refine ⟨decide_eq_false (by have := h.n; omega), ?_⟩
 rw [List.any_eq_false]
 intro T hT
 rw [(h.t T hT).OM]
 simp
theorem kJ.notes {B : bK} (h : kJ B) : (dz B.bG).length ≤ 100 := by
 have := Em B.bG h.t
 have := h.n
 omega
theorem kJ.b {b : bF} (h : kJ b.B) : Ue b := ⟨fun t ht => (h.t t.T (List.mem_map.2 ⟨t, ht, rfl⟩)).Ru, by have := h.n; unfold bF.B at this; rw [List.length_map] at this; omega⟩
structure iI (k : Nat) (v : CV) : Prop where
 g : Bv k v
 f : ∀ s ∈ v.past, kJ s.1
theorem JY {c d : CV} {B : bK} {l : List rM} (h : kH c B l = .ok d) : d.past = bU 4 (c.past ++ [(B, c.c)]) ∧ vW c.c B l = .ok d.c := by
 unfold kH at h
 cases hd : vW c.c B l with
 | error e => rw [hd] at h; cases h
 | ok z =>
  rw [hd] at h
  cases h
  exact ⟨rfl, rfl⟩
theorem iI.next {k : Nat} {c d : CV} {B : bK} {l : List rM} (h : kH c B l = .ok d) (hc : iI k c) (hB : kJ B) : iI (k + 14) d := by
 refine ⟨(Kg h hc.g).up (by have := hB.Zf; omega), fun s hs => ?_⟩
 rw [(JY h).1] at hs
 rcases List.mem_append.1 (List.mem_of_mem_drop hs) with q | q
 ·exact hc.f s q
 ·rw [List.mem_singleton.1 q]; exact hB
theorem iI.Co {k : Nat} {v : CV} (h : iI k v) (hk : k ≤ 900) : kE v.c := ⟨by have := h.g.c.n; omega, by have := h.g.c.m; omega, by have := h.g.c.g; omega⟩
theorem iI.Ym {k : Nat} {d : CA} (h : iI k d.V) (hk : k ≤ 900) : ∀ s ∈ d.past, LQ s := fun s hs => by
 have hm : s.S ∈ d.V.past := List.mem_map.2 ⟨s, hs, rfl⟩
 have h1 := h.f _ hm
 have h2 := h.g.p _ hm
 exact ⟨kJ.b (b := s.b) h1, ⟨by have : s.c.C.aV.length ≤ k := h2.n; omega, by have : s.c.C.av.length ≤ k := h2.m; omega, by have : s.c.C.ring.length ≤ 8 := h2.g; omega⟩⟩
theorem iI.past {k : Nat} {d : CA} (h : iI k d.V) : d.past.length ≤ 4 := by
 have := h.g.n
 unfold CA.V at this
 rwa [List.length_map] at this
theorem iI.aav {k : Nat} {d : CA} (h : iI k d.V) (hk : k ≤ 900) : Ww d := ⟨h.Co hk, h.Ym hk, by have := h.past; omega⟩
theorem iI.aay {k m : Nat} {d : CA} {b : bF} (h : iI k d.V) (hB : kJ b.B) (hk : k + 14 ≤ 300) (hm : m ≤ 1500) : Uh d b m :=
 ⟨⟨k, h.g.c, by have := hB.Zf; omega⟩, ⟨h.Co (by omega), h.Ym (by omega), by have := h.past; omega, hB.b⟩, hB.OM, hB.notes, hm⟩
theorem iI.start : iI 1 PG := ⟨⟨⟨by show je aD.at_ jO []; simp [je], fun _ h => absurd h List.not_mem_nil, rfl, Nat.zero_le _, Nat.zero_le _, by show 1 ≤ 8; decide⟩, fun _ h => absurd h List.not_mem_nil, Nat.zero_le _⟩, fun _ h => absurd h List.not_mem_nil⟩
end
section
open Go.RowKit
theorem RD (a : Option Addr) (c : Nat) (w : World) : Calls Tryz.prog 248 #[.slice a 0 c] w fun e w' => e = .returned (.tuple #[]) ∧ w' = w := by
 go_enter Tryz.func248, Tryz.ntmps248
 go_wp2_with fail
 refine wp_loop_rounds 1 ?_
 rw [rounds_succ]
 go_wp2_with fail
 exact ⟨rfl, .tuple #[], by kernel_rfl, rfl, rfl⟩
theorem Yo (d : CA) (w : World) : Calls Tryz.prog 188 #[.agg d.cells.toArray, .int .i64 0] w fun e w' => e = .returned (.tuple #[.agg d.cells.toArray, .slice none 0 0]) ∧ Below w.heap.size w w' := by
 obtain ⟨Z, hZ, hz, hzs, hzn⟩ := bB dZ fQ
 have HS := qh hzs
 have H0 := qh (show Holds w [(w.heap.size + 1, 45, Z), (w.heap.size, 45, d.cells.toArray)] ((w.alloc (.cells d.cells.toArray 45)).alloc (.cells Z 45)) from by
  have := ((Holds.nil w).box 45 d.cells.toArray).box 45 Z
  simpa only [World.size_alloc] using this)
 clear hZ hzs
 go_enter Tryz.func188, Tryz.ntmps188
 go_wp2_with fail
 refine wp_loop_rounds 1 ?_
 rw [rounds_succ]
 go_wp2_with fail
 refine (RD _ _ _).mono ?_
 rintro e w1 ⟨rfl, rfl⟩
 go_wp2_with (first
  | ((with_reducible refine az 2 ?_); refine cO.af rfl (.tmp 2) rfl w.heap.size 0 rfl d (au.ah (H0.out.b (w.heap.size) (45) (d.cells.toArray) (by simp))) ?_)
  | ((with_reducible refine ag 4 25 ?_); refine cO.aj rfl (.tmp 4) (.tmp 25) rfl rfl (w.heap.size + 1) d rfl rfl 45 _ (H0.out.b (w.heap.size + 1) 45 Z (by simp)) (by rw [HS.out]) ?_; intro w2 o2 b2))
 exact bodyPost_ret (wT rfl _ _ ⟨w.heap.size + 1, 0, none⟩ rfl (cO.load _ _ 0 d (au.ah b2))) rfl ⟨rfl, H0.out.below.trans (o2.below (by simp))⟩
theorem up0 (d : CA) (w : World) : Calls Tryz.prog 189 #[.agg d.cells.toArray, .slice none 0 0, .slice none 0 0] w fun e w' => e = .returned (.agg d.cells.toArray) ∧ Below w.heap.size w w' := by
 obtain ⟨Z, hZ, hz, hzs, hzn⟩ := bB dZ fQ
 have HS := qh hzs
 have H0 := qh (show Holds w [(w.heap.size + 1, 45, Z), (w.heap.size, 45, d.cells.toArray)] ((w.alloc (.cells d.cells.toArray 45)).alloc (.cells Z 45)) from by
  have := ((Holds.nil w).box 45 d.cells.toArray).box 45 Z
  simpa only [World.size_alloc] using this)
 clear hZ hzs
 go_enter Tryz.func189, Tryz.ntmps189
 go_wp2_with fail
 refine wp_loop_rounds 1 ?_
 rw [rounds_succ]
 go_wp2_with (first
  | ((with_reducible refine az 3 ?_); refine cO.af rfl (.tmp 3) rfl w.heap.size 0 rfl d (au.ah (H0.out.b (w.heap.size) (45) (d.cells.toArray) (by simp))) ?_)
  | ((with_reducible refine ag 6 20 ?_); refine cO.aj rfl (.tmp 6) (.tmp 20) rfl rfl (w.heap.size + 1) d rfl rfl 45 _ (H0.out.b (w.heap.size + 1) 45 Z (by simp)) (by rw [HS.out]) ?_; intro w2 o2 b2))
 exact bodyPost_ret (aU rfl _ _ (w.heap.size + 1) 45 _ (0, 0) _ rfl b2 Tryz.underlying45 rfl (by rw [cO.arr]; kernel_rfl)) rfl ⟨rfl, H0.out.below.trans (o2.below (by simp))⟩
theorem Xn (gn gc gb gl g h : Nat) (Z : Array Value) (hZ : Z.size = 1063) (z1 : Value) (d : CA) (w : World) (h0 : ax w gn 3 #[.int .i64 0]) (h1 : ax w gc 45 d.cells.toArray) (h2 : ax w gb 204 #[.slice none 0 0]) (h3 : ax w gl 77 #[.slice none 0 0]) (h4 : ax w g 45 Z) (h5 : ax w h 204 #[z1]) (hne : g ≠ h) (hd : d.In w w.heap.size) (hf : Ww d) :
 Calls Tryz.prog 187 #[.pointer (some ⟨gn, 0, none⟩), .pointer (some ⟨gc, 0, none⟩), .pointer (some ⟨gb, 0, none⟩), .pointer (some ⟨gl, 0, none⟩), .pointer (some ⟨g, 0, none⟩), .pointer (some ⟨h, 0, none⟩)] w fun e w' => ∃ (u v : World) (y : CA) (A : Option Addr) (m c : Nat), y.V = d.V ∧ e = .returned (.tuple #[]) ∧ Below w.heap.size w u ∧ Only [g] u v ∧ Only [h] v w' ∧ ax w' g 45 y.cells.toArray ∧ ax w' h 204 #[.slice A m c] ∧ nC w.heap.size w' y := by
 have kn := h0.c0
 have H0 := qh (And.intro h2 h3)
 have H1 := qh h1
 have H4 := qh h4
 have H5 := qh h5
 have HNE := qh (And.intro hne hZ)
 have HD := qh (fun V (hb : Below w.heap.size w V) => ((hd.below hb).more hb.size : d.In V V.heap.size))
 have HF := qh hf
 obtain ⟨Q, hQ, hq, WK, hqn⟩ := bB dZ fQ
 have HQS := qh WK
 clear h0 h1 h2 h3 h4 h5 hd hf hne hZ hQ WK
 go_enter Tryz.func187, Tryz.ntmps187
 go_wp2_with fail
 refine (jX 1 _).mono ?_
 rintro e w1 ⟨rfl, rfl⟩
 go_wp2_with ((with_reducible refine az 1 ?_); refine cO.af rfl (.tmp 1) rfl gc 0 rfl d (au.ah H1.out) ?_)
 clear kn H1
 refine (Yo d _).mono ?_
 rintro e w1 ⟨rfl, b1⟩
 have B1 := qh b1
 clear b1
 go_wp2_with (first
  | ((with_reducible refine ag 6 15 ?_); refine cO.aj rfl (.tmp 6) (.tmp 15) rfl rfl w1.heap.size d rfl rfl 45 _ (ax.new _ _ _) (by rw [HQS.out]) ?_; intro w3 o3 b3; have B3 := qh (B1.out.trans ((((Below.refl w1.heap.size w1).alloc (Nat.le_refl _) (.cells Q 45)).trans (o3.below (by simp))).mono B1.out.size)); have K3 := qh b3; have kb := (aa B3.out H0.out.1 H0.out.1.lt).c0; have kl := (aa B3.out H0.out.2 H0.out.2.lt).c0; clear o3 b3 B1)
  | ((with_reducible refine az 6 ?_); refine cO.af rfl (.tmp 6) rfl w1.heap.size 0 rfl d (au.ah K3.out) ?_))
 clear kb kl
 refine (up0 d _).mono ?_
 rintro e w4 ⟨rfl, b4⟩
 have B4 := qh (B3.out.trans (b4.mono B3.out.size))
 clear b4 B3 K3 H0
 have HC := qh (Nf d w4 (HD.out _ B4.out) HF.out.c HF.out.s HF.out.p)
 go_wp2_with fail
 refine HC.out.mono ?_
 rintro e w5 ⟨y3, hy3, rfl, oy3, b5⟩
 have HY3 := qh hy3
 have OY := qh (oy3.mono B4.out.size)
 have B5 := qh (B4.out.trans (b5.mono B4.out.size))
 clear hy3 oy3 b5 HC B4 HF
 have HE := qh (Na none 0 [] w5 (aK.nil (Nat.zero_le _)) (fun b hb => absurd hb List.not_mem_nil) (fun b hb => absurd hb List.not_mem_nil) (by simp))
 go_wp2_with fail
 refine HE.out.mono ?_
 rintro e w6 ⟨A6, c6, ys, hys, rfl, o6, e6, b6⟩
 have B6 := qh (B5.out.trans (b6.mono B5.out.size))
 have Wj := qh (OY.out.from b6)
 have G6 := qh (aa B6.out H4.out H4.out.lt)
 have L6 := qh (aa B6.out H5.out H5.out.lt)
 clear hys o6 e6 b6 HE OY B5 H4 H5
 go_wp2_with (first
  | ((with_reducible refine ag 4 21 ?_); refine cO.aj rfl (.tmp 4) (.tmp 21) rfl rfl g y3 rfl rfl 45 _ G6.out HNE.out.2 ?_; intro w7 o7 b7; have P7 := qh (And.intro o7 b7); have OY7 := qh (Wj.out.only o7 G6.out mZ); have L7 := qh (o7.blk L6.out (by have := HNE.out.1; simp; omega)); clear o7 b7 Wj G6 L6)
  | ((with_reducible refine ag 5 23 ?_); refine aF rfl 204 (.tmp 5) (.tmp 23) rfl rfl h _ rfl rfl rfl 204 _ L7.out (by kernel_rfl) ?_; intro w8 o8 b8; have OY8 := qh (OY7.out.only o8 L7.out IL); have P8 := qh (And.intro o8 b8); have G8 := qh (o8.blk P7.out.2 (by have := HNE.out.1; simp; omega)); clear o8 b8 OY7 L7))
 exact ⟨rfl, .tuple #[], by simp [results, Tryz.results187], w6, w7, y3, A6, _, c6, HY3.out, rfl, B6.out, P7.out.1, P8.out.1, G8.out, P8.out.2, OY8.out⟩
theorem Xo (d : CA) (w : World) (hd : d.In w w.heap.size) (hf : Ww d) : Calls Tryz.prog 125 #[.agg d.cells.toArray, .int .i64 0, .slice none 0 0, .slice none 0 0] w fun e w' => Below w.heap.size w w' ∧ ∃ (y : CA) (A : Option Addr) (m c : Nat), y.V = d.V ∧ e = .returned (.tuple #[.agg y.cells.toArray, .slice A m c, .int .i64 0]) ∧ nC w.heap.size w' y := by
 obtain ⟨Z, hZ, hz, hzs, hzn⟩ := bB dZ fQ
 have HS := qh hzs
 have H0 := qh (show Holds w [(w.heap.size + 5, 204, #[.slice none 0 0]), (w.heap.size + 4, 45, Z), (w.heap.size + 3, 77, #[.slice none 0 0]), (w.heap.size + 2, 204, #[.slice none 0 0]), (w.heap.size + 1, 3, #[.int .i64 0]), (w.heap.size, 45, d.cells.toArray)] ((((((w.alloc (.cells d.cells.toArray 45)).alloc (.cells #[.int .i64 0] 3)).alloc (.cells #[.slice none 0 0] 204)).alloc (.cells #[.slice none 0 0] 77)).alloc (.cells Z 45)).alloc (.cells #[.slice none 0 0] 204)) by
  have := (((((((Holds.nil w).box 45 d.cells.toArray).box 3 #[.int .i64 0]).box 204 #[.slice none 0 0]).box 77 #[.slice none 0 0]).box 45 Z).box 204 #[.slice none 0 0])
  simpa only [World.size_alloc, Nat.add_assoc] using this)
 have DI := qh hd
 have HF := qh hf
 clear hd hf hZ hzs
 have ED : ∀ (fn : Fn) (first cap : Array Value) (w : World), (Instr.makeFunc fn first cap).run Tryz.prog w = .ok (.func fn first cap) w := fun _ _ _ _ => rfl
 go_enter Tryz.func125, Tryz.ntmps125
 go_wp2_with fail
 clear ED
 obtain ⟨V0, Vx⟩ : ∃ V0, ((((((w.alloc (.cells d.cells.toArray 45)).alloc (.cells #[.int .i64 0] 3)).alloc (.cells #[.slice none 0 0] 204)).alloc (.cells #[.slice none 0 0] 77)).alloc (.cells Z 45)).alloc (.cells #[.slice none 0 0] 204)) = V0 := ⟨_, rfl⟩
 have QH := qh (show V0.heap.size = w.heap.size + 6 by rw [← Vx]; simp)
 rw [Vx] at H0 ⊢
 clear Vx
 obtain ⟨V1, hV1⟩ : ∃ V1, V0.alloc (.cells #[.int .i64 0] 30) = V1 := ⟨_, rfl⟩
 have H1 := qh (show Holds w [(w.heap.size + 5, 204, #[.slice none 0 0]), (w.heap.size + 4, 45, Z), (w.heap.size + 3, 77, #[.slice none 0 0]), (w.heap.size + 2, 204, #[.slice none 0 0]), (w.heap.size + 1, 3, #[.int .i64 0]), (w.heap.size, 45, d.cells.toArray)] V1 from hV1 ▸ H0.out.alloc _)
 have EB := qh (show ax V1 (w.heap.size + 6) 30 #[.int .i64 0] by have := ax.new V0 30 #[.int .i64 0]; rw [hV1] at this; rwa [QH.out] at this)
 have HC := qh (Xn (w.heap.size + 1) w.heap.size (w.heap.size + 2) (w.heap.size + 3) (w.heap.size + 4) (w.heap.size + 5) Z HS.out (.slice none 0 0) d V1 (H1.out.b (w.heap.size + 1) (3) (#[.int .i64 0]) (by simp)) (H1.out.b (w.heap.size) (45) (d.cells.toArray) (by simp)) (H1.out.b (w.heap.size + 2) (204) (#[.slice none 0 0]) (by simp)) (H1.out.b (w.heap.size + 3) (77) (#[.slice none 0 0]) (by simp)) (H1.out.b (w.heap.size + 4) (45) (Z) (by simp)) (H1.out.b (w.heap.size + 5) (204) (#[.slice none 0 0]) (by simp)) (by omega) (DI.out.on H1.out.below (Nat.le_refl _)) HF.out)
 have HT := qh (Aj 187 #[.pointer (some ⟨w.heap.size + 1, 0, none⟩), .pointer (some ⟨w.heap.size, 0, none⟩), .pointer (some ⟨w.heap.size + 2, 0, none⟩), .pointer (some ⟨w.heap.size + 3, 0, none⟩), .pointer (some ⟨w.heap.size + 4, 0, none⟩), .pointer (some ⟨w.heap.size + 5, 0, none⟩)] V0 (fun V => Below w.heap.size w V ∧ ax V (w.heap.size + 6) 30 #[.int .i64 0] ∧ ∃ (y : CA) (A : Option Addr) (m c : Nat), y.V = d.V ∧ ax V (w.heap.size + 4) 45 y.cells.toArray ∧ ax V (w.heap.size + 5) 204 #[.slice A m c] ∧ nC w.heap.size V y) (JP _) (hV1 ▸ HC.out.mono fun e V ⟨u, v, y, A, m, c, hy, he, bv, p, q, kg, kh, oy⟩ => by
  have hsz := H1.out.below.size
  have k6 : ax V (w.heap.size + 6) 30 #[.int .i64 0] := q.blk (p.blk (aa bv EB.out EB.out.lt) (by simp)) (by simp)
  exact ⟨he, ⟨((H1.out.below.trans (bv.mono hsz)).trans (p.below (by simp))).trans (q.below (by simp)), k6, y, A, m, c, hy, kg, kh, oy.mono hsz⟩, by rw [QH.out]; exact k6⟩))
 clear HC H0 H1 EB hV1
 refine HT.out.mono ?_
 rintro e x1 ⟨rfl, v1, ⟨bv, ev, y, A, m, c, hy, kg, kh, oy⟩, o1⟩
 rw [QH.out] at o1
 have BB := qh (bv.trans (o1.below (by simp)))
 have KK := qh (show ax x1 (w.heap.size + 4) 45 y.cells.toArray ∧ ax x1 (w.heap.size + 5) 204 #[.slice A m c] from ⟨o1.blk kg (by simp), o1.blk kh (by simp)⟩)
 have OY := qh (oy.only o1 ev Vl)
 have HY := qh hy
 clear HT bv ev kg kh oy hy o1
 go_wp2_with fail
 refine wp_region_held_drew (S := (fun V => ax V (w.heap.size + 4) 45 y.cells.toArray ∧ ax V (w.heap.size + 5) 204 #[.slice A m c] ∧ Below w.heap.size w V)) (by kernel_rfl) ⟨KK.out.1.drew, KK.out.2.drew, BB.out.drew⟩ ?_
 have P1 := qh (OY.out.from (Below.refl _ _).drew)
 clear OY KK BB
 intro hS
 refine tk 0 (.agg y.cells.toArray) rfl (cO.aB (by rfl) (.tmp 8) rfl (w.heap.size + 4) 0 rfl y (fun _ h => au.ah h.1)) hS ?_
 go_simp
 refine tk 1 (.slice A m c) rfl (mg (by rfl) 204 (.tmp 9) rfl ⟨w.heap.size + 5, 0, none⟩ rfl _ Tryz.isAgg204 (fun _ h => h.2.1.c0)) hS ?_
 go_simp
 refine tkp 2 (.int .i64 0) rfl hS ?_
 go_simp
 refine rd 3 rfl (fun Kq hK => ?_)
 refine cO.aH rfl (.tmp 8) (.tmp 13) rfl rfl (w.heap.size + 4) y rfl rfl 45 _ hS.1 (cO.arr _) ?_
 intro w4 o4 b4
 have P4 := qh (P1.out.only o4 hS.1 mZ)
 clear P1
 refine hK.out _ _ ⟨b4, o4.blk hS.2.1 (by simp), hS.2.2.trans (o4.below (by simp))⟩ (fun hS => ?_)
 clear hK Kq o4 b4
 go_simp
 refine rd 4 rfl (fun Kq hK => ?_)
 refine dU rfl 204 (.tmp 9) (.tmp 14) rfl rfl (w.heap.size + 5) 0 (.slice A m c) rfl rfl rfl 204 _ hS.2.1 (by simp) (by kernel_rfl) ?_
 intro w5 o5 b5
 have P7 := qh (P4.out.only o5 hS.2.1 IL)
 clear P4
 refine hK.out _ _ ⟨o5.blk hS.1 (by simp), b5, hS.2.2.trans (o5.below (by simp))⟩ (fun hS => ?_)
 clear hK Kq o5 b5
 go_simp
 refine rd 5 rfl (fun Kq hK => ?_)
 go_simp
 refine hK.out _ _ hS (fun hS => ?_)
 clear hK Kq
 go_simp
 refine wpAnyH_done (by kernel_rfl) ?_ _
 go_wp2_with fail
 refine bodyPost_ret (rZ rfl _ _ ⟨w.heap.size + 4, 0, none⟩ ⟨w.heap.size + 5, 0, none⟩ rfl rfl (cO.load _ _ 0 y (au.ah hS.1)) (fP Tryz.isAgg204 hS.2.1.c0)) rfl ?_
 exact ⟨hS.2.2, y, A, m, c, HY.out, rfl, P7.out⟩
end
section
open Go.RowKit
def z0 : aQ .u64 := ⟨0, by decide⟩
def Ke : dJ := ⟨yE, z0⟩
theorem jf : Ke.cells.toArray.size = 1065 + 1 := lF.arr Ke
theorem jF : ((Tryz.prog.info? 52).bind (·.zero)) = some (.agg Ke.cells.toArray) := by kernel_rfl
theorem zP : ((Tryz.prog.info? 112).bind (·.zero)) = some (.agg Ke.cells.toArray) := by kernel_rfl
theorem Kh (d : CA) (t : TypeId) (ht : t = 52) : Tryz.prog.built t [(0, .agg d.cells.toArray)] = some (⟨d, z0⟩ : dJ).cells.toArray := by
 subst ht
 have e := Fw (parts := [(0, .agg d.cells.toArray)]) (places := [(0, 1063), (1063, 3)]) jF Tryz.underlying52 (by kernel_rfl)
 rw [e]
 have h0 : Ke.cells = [] ++ yE.cells ++ aA z0 := rfl
 show Instr.fill _ Ke.cells.toArray _ = _
 rw [h0, yY _ 0 (.agg d.cells.toArray) [] yE.cells _ _ (by show some (0, 1063) = some (0, d.cells.toArray.size); rw [cO.arr]) (by show yE.cells.length = d.cells.toArray.size; rw [cO.arr, yE.len])]
 unfold Instr.fill
 rfl
theorem Sw (n : dJ) : n.cells.toArray.setIfInBounds 1063 (.slice none 0 0) = n.cells.toArray := by
 unfold dJ.cells
 rw [List.setIfInBounds_toArray, List.set_append_right _ _ (by rw [n.d.len]; omega), n.d.len]
 rfl
theorem Sv (n : dJ) : n.cells.toArray.setIfInBounds 1064 (.slice none 0 0) = n.cells.toArray := by
 unfold dJ.cells
 rw [List.setIfInBounds_toArray, List.set_append_right _ _ (by rw [n.d.len]; omega), n.d.len]
 rfl
theorem oD : UR 52 := ⟨by decide, by decide, by decide, by decide, by decide, by decide⟩
theorem sF : UR 112 := ⟨by decide, by decide, by decide, by decide, by decide, by decide⟩
theorem XD (w : World) (hR : aM w) : Calls Tryz.prog 13 #[] w fun e w' => ∃ A c, e = .returned (.agg (⟨qZ A c, z0⟩ : dJ).cells.toArray) ∧ nC w.heap.size w' (qZ A c) ∧ Below w.heap.size w w' := by
 obtain ⟨Z, hZ, hz, hzs, hzn⟩ := bB jF jf
 have HS := qh hzs
 have H0 := qh (show Holds w [(w.heap.size, 52, Z)] (w.alloc (.cells Z 52)) from (Holds.nil w).box 52 Z)
 have GE := qh (fun V (hb : Below w.heap.size w V) => Ve V (aM.below hR hb (aM.sH hR) (aM.qL hR)))
 clear hR hZ hzs
 go_enter Tryz.func13, Tryz.ntmps13
 go_wp2_with fail
 refine (GE.out _ H0.out.below).mono ?_
 rintro e w1 ⟨A, c, rfl, o1, b1⟩
 have O1 := qh (o1.mono H0.out.below.size)
 have H1 := qh (H0.out.call b1)
 clear o1 b1 H0 GE
 go_wp2_with (first
  | ((with_reducible refine bW 2 ?_); refine bu rfl 52 #[(0, .tmp 1)] rfl (⟨qZ A c, z0⟩ : dJ).cells.toArray ((congrArg (Tryz.prog.built 52) (show _ = [(0, Value.agg (qZ A c).cells.toArray)] by kernel_rfl)).trans (Kh (qZ A c) _ rfl)) ?_)
  | ((with_reducible refine ag 0 2 ?_); refine lF.aj rfl (.tmp 0) (.tmp 2) rfl rfl w.heap.size ⟨qZ A c, z0⟩ rfl rfl 52 _ (H1.out.b (w.heap.size) (52) (Z) (by simp)) (by rw [HS.out]) ?_; intro w2 o2 b2))
 exact bodyPost_ret (aU rfl _ _ w.heap.size 52 _ (0, 0) _ rfl b2 Tryz.underlying52 rfl (by rw [lF.arr]; kernel_rfl)) rfl ⟨A, c, rfl, O1.out.only o2 (H1.out.b (w.heap.size) (52) (Z) (by simp)) oD, H1.out.below.trans (o2.below (by simp))⟩
theorem NI (n : dJ) (w : World) : Calls Tryz.prog 72 #[.agg n.cells.toArray] w fun e w' => e = .returned (.agg n.cells.toArray) ∧ Below w.heap.size w w' := by
 obtain ⟨Z, hZ, hz, hzs, hzn⟩ := bB jF jf
 have HS := qh hzs
 have H0 := qh (show Holds w [(w.heap.size + 1, 52, Z), (w.heap.size, 112, n.cells.toArray)] ((w.alloc (.cells n.cells.toArray 112)).alloc (.cells Z 52)) from by
  have := ((Holds.nil w).box 112 n.cells.toArray).box 52 Z
  simpa only [World.size_alloc] using this)
 clear hZ hzs
 go_enter Tryz.func72, Tryz.ntmps72
 go_wp2_with (first
  | ((with_reducible refine az 3 ?_); refine cO.af rfl (.tmp 3) rfl w.heap.size 0 rfl n.d (dJ.chain (au.ah (H0.out.b (w.heap.size) (112) (n.cells.toArray) (by simp)))) ?_)
  | ((with_reducible refine az 5 ?_); refine j5.af rfl (.tmp 5) rfl w.heap.size 1063 rfl n.z (dJ.pool (au.ah (H0.out.b (w.heap.size) (112) (n.cells.toArray) (by simp)))) ?_)
  | ((with_reducible refine bW 7 ?_); refine bu rfl 52 #[(0, .tmp 4), (1, .tmp 6)] rfl n.cells.toArray ((congrArg (Tryz.prog.built 52) (show _ = [(0, Value.agg n.d.cells.toArray), (1, Value.agg (aA n.z).toArray)] by kernel_rfl)).trans (NJ n _ rfl)) ?_)
  | ((with_reducible refine ag 2 7 ?_); refine lF.aj rfl (.tmp 2) (.tmp 7) rfl rfl (w.heap.size + 1) n rfl rfl 52 _ (H0.out.b (w.heap.size + 1) (52) (Z) (by simp)) (by rw [HS.out]) ?_; intro w2 o2 b2))
 exact bodyPost_ret (aU rfl _ _ (w.heap.size + 1) 52 _ (0, 0) _ rfl b2 Tryz.underlying52 rfl (by rw [lF.arr]; kernel_rfl)) rfl ⟨rfl, H0.out.below.trans (o2.below (by simp))⟩
theorem Xx (n : dJ) (k : Nat) (w : World) (hd : n.d.In w w.heap.size) (hp : iI k n.d.V) (hk : k ≤ 900) (_hR : aM w) :
 Calls Tryz.prog 71 #[.agg n.cells.toArray] w fun e w' => ∃ y : CA, y.V = n.d.V ∧ e = .returned (.agg (⟨y, n.z⟩ : dJ).cells.toArray) ∧ nC w.heap.size w' y ∧ Below w.heap.size w w' := by
 obtain ⟨Z, hZ, hz, hzs, hzn⟩ := bB zP jf
 obtain ⟨Zc, hZc, hzc, Po, aal⟩ := bB dZ fQ
 have HS := qh (And.intro hzs Po)
 have H0 := qh (show Holds w [(w.heap.size + 1, 112, Z), (w.heap.size, 52, n.cells.toArray)] ((w.alloc (.cells n.cells.toArray 52)).alloc (.cells Z 112)) from by
  have := ((Holds.nil w).box 52 n.cells.toArray).box 112 Z
  simpa only [World.size_alloc] using this)
 have RE := qh (show ∀ V, Below w.heap.size w V → Calls Tryz.prog 125 #[.agg n.d.cells.toArray, .int .i64 0, .slice none 0 0, .slice none 0 0] V fun e w' => Below V.heap.size V w' ∧ ∃ (y : CA) (A : Option Addr) (m c : Nat), y.V = n.d.V ∧ e = .returned (.tuple #[.agg y.cells.toArray, .slice A m c, .int .i64 0]) ∧ nC V.heap.size w' y from fun V hb => by
  exact Xo n.d V ((hd.below hb).more hb.size) (hp.aav hk))
 have TX := qh (fun V => Cg n.z V)
 clear hd hp hk _hR hZ hzs hZc Po
 go_enter Tryz.func71, Tryz.ntmps71
 go_wp2_with (first
  | ((with_reducible refine az 10 ?_); refine cO.af rfl (.tmp 10) rfl w.heap.size 0 rfl n.d (dJ.chain (au.ah (H0.out.b (w.heap.size) (52) (n.cells.toArray) (by simp)))) ?_))
 refine (RE.out _ H0.out.below).mono ?_
 rintro e w1 ⟨b1, y, A1, m1, c1, hy, rfl, o1⟩
 have O1 := qh (o1.mono H0.out.below.size)
 have HY := qh hy
 have H1 := qh (H0.out.call b1)
 clear hy o1 b1 H0 RE
 go_wp2_with (first
  | ((with_reducible refine ag 3 13 ?_); refine cO.aj rfl (.tmp 3) (.tmp 13) rfl rfl w1.heap.size y rfl rfl 45 _ (ax.new w1 45 Zc) (by rw [HS.out.2]) ?_; intro w2 o2 b2
     have H2 := qh (show Holds w [(w1.heap.size, 45, y.cells.toArray), (w.heap.size + 1, 112, Z), (w.heap.size, 52, n.cells.toArray)] w2 from H1.out.put o2 b2)
     have O2 := qh ((O1.out.from ((Below.refl _ _).alloc (Nat.le_refl _) _)).only o2 (ax.new w1 45 Zc) mZ)
     clear o2 b2 H1 O1)
  | ((with_reducible refine az 3 ?_); refine cO.af rfl (.tmp 3) rfl w1.heap.size 0 rfl y (au.ah (H2.out.b (w1.heap.size) (45) (y.cells.toArray) (by simp))) ?_)
  | ((with_reducible refine az 17 ?_); refine j5.af rfl (.tmp 17) rfl w.heap.size 1063 rfl n.z (dJ.pool (au.ah (H2.out.b (w.heap.size) (52) (n.cells.toArray) (by simp)))) ?_)
  | ((with_reducible refine bW 19 ?_); refine bu rfl 112 #[(0, .tmp 16), (1, .tmp 18)] rfl (⟨y, n.z⟩ : dJ).cells.toArray ((congrArg (Tryz.prog.built 112) (show _ = [(0, Value.agg y.cells.toArray), (1, Value.agg (aA n.z).toArray)] by kernel_rfl)).trans (Qm (⟨y, n.z⟩ : dJ) _ rfl)) ?_)
  | ((with_reducible refine ag 6 19 ?_); refine BJ.aj rfl (.tmp 6) (.tmp 19) rfl rfl w2.heap.size (⟨y, n.z⟩ : dJ) rfl rfl 112 _ (ax.new w2 112 Z) (by rw [HS.out.1]) ?_; intro w3 o3 b3
     have H3 := qh ((show Holds w [(w2.heap.size, 112, (⟨y, n.z⟩ : dJ).cells.toArray), (w1.heap.size, 45, y.cells.toArray), (w.heap.size + 1, 112, Z), (w.heap.size, 52, n.cells.toArray)] w3 from H2.out.put o3 b3).os (L' := [(w2.heap.size, 112, (⟨y, n.z⟩ : dJ).cells.toArray), (w.heap.size + 1, 112, Z), (w.heap.size, 52, n.cells.toArray)]))
     have O3 := qh ((O2.out.from ((Below.refl _ _).alloc (Nat.le_refl _) _)).only o3 (ax.new w2 112 Z) sF)
     have G3 := qh (show w.heap.size + 1 < w2.heap.size from (H2.out.b (w.heap.size + 1) (112) Z (by simp)).lt)
     clear o3 b3 H2 O2))
 obtain ⟨g6, hg6⟩ : ∃ g, w2.heap.size = g := ⟨_, rfl⟩
 rw [hg6] at H3 G3 ⊢
 clear hg6
 refine wp_region_held_drew (S := fun V => Holds w [(g6, 112, (⟨y, n.z⟩ : dJ).cells.toArray), (w.heap.size + 1, 112, Z), (w.heap.size, 52, n.cells.toArray)] V ∧ nC w.heap.size V y) (by kernel_rfl) ⟨H3.out.call (Below.refl _ _).drew, O3.out.from (Below.refl _ _).drew⟩ ?_
 intro hS
 clear H3 O3
 refine tkp 0 (.pointer (some ⟨g6, 1063, none⟩)) rfl hS ?_
 go_simp
 refine tkp 1 (.pointer (some ⟨g6, 1063, none⟩)) rfl hS ?_
 go_simp
 refine tk 2 (.slice none 0 0) rfl (bJ (by rfl) 46 (.tmp 21) rfl ⟨g6, 1063, none⟩ rfl _ Tryz.isAgg46 (fun _ h => dJ.l0 (au.ah (h.1.b (g6) (112) ((⟨y, n.z⟩ : dJ).cells.toArray) (by simp))))) hS ?_
 go_simp
 refine tkp 4 (.pointer (some ⟨g6, 1063, none⟩)) rfl hS ?_
 go_simp
 refine tkp 5 (.pointer (some ⟨g6, 1064, none⟩)) rfl hS ?_
 go_simp
 refine tk 6 (.slice none 0 0) rfl (bJ (by rfl) 47 (.tmp 25) rfl ⟨g6, 1064, none⟩ rfl _ Tryz.isAgg47 (fun _ h => dJ.l1 (au.ah (h.1.b (g6) (112) ((⟨y, n.z⟩ : dJ).cells.toArray) (by simp))))) hS ?_
 go_simp
 refine rd 3 rfl (fun Kq hK => ?_)
 go_simp
 with_reducible refine (Qe _).mono ?_
 rintro e x1 ⟨rfl, rfl⟩
 refine hK.out _ _ hS (fun hS => ?_)
 clear hK Kq
 go_simp
 refine tkp 8 (.pointer (some ⟨g6, 1063, none⟩)) rfl hS ?_
 go_simp
 refine tkp 9 (.pointer (some ⟨g6, 1063, none⟩)) rfl hS ?_
 go_simp
 refine rd 7 rfl (fun Kq hK => ?_)
 go_simp
 with_reducible refine (nQ _).mono ?_
 rintro e x2 ⟨rfl, rfl⟩
 refine hK.out _ _ hS (fun hS => ?_)
 clear hK Kq
 go_simp
 refine rd 10 rfl (fun Kq hK => ?_)
 refine dU rfl 46 (.tmp 29) (.tmp 23) rfl rfl g6 1063 (.slice none 0 0) rfl rfl rfl 112 (⟨y, n.z⟩ : dJ).cells.toArray (hS.1.b (g6) (112) ((⟨y, n.z⟩ : dJ).cells.toArray) (by simp)) (by rw [BJ.arr]; omega) (by kernel_rfl) ?_
 intro y3 oq bq
 rw [Sw] at bq
 have hT : Holds w [(g6, 112, (⟨y, n.z⟩ : dJ).cells.toArray), (w.heap.size + 1, 112, Z), (w.heap.size, 52, n.cells.toArray)] y3 ∧ nC w.heap.size y3 y := ⟨hS.1.turn oq bq (by have := G3.out; omega) (fun x hx => by
  have := G3.out
  simp only [List.mem_cons, List.not_mem_nil, or_false] at hx
  rcases hx with rfl | rfl <;> simp only <;> omega), hS.2.only oq (hS.1.b (g6) (112) ((⟨y, n.z⟩ : dJ).cells.toArray) (by simp)) sF⟩
 refine hK.out _ _ hT (fun hS => ?_)
 clear hK Kq oq bq hT
 go_simp
 refine tkp 11 (.pointer (some ⟨g6, 1063, none⟩)) rfl hS ?_
 go_simp
 refine tkp 12 (.pointer (some ⟨g6, 1064, none⟩)) rfl hS ?_
 go_simp
 refine rd 13 rfl (fun Kq hK => ?_)
 refine dU rfl 47 (.tmp 31) (.tmp 27) rfl rfl g6 1064 (.slice none 0 0) rfl rfl rfl 112 (⟨y, n.z⟩ : dJ).cells.toArray (hS.1.b (g6) (112) ((⟨y, n.z⟩ : dJ).cells.toArray) (by simp)) (by rw [BJ.arr]; omega) (by kernel_rfl) ?_
 intro y4 oq bq
 rw [Sv] at bq
 have hT : Holds w [(g6, 112, (⟨y, n.z⟩ : dJ).cells.toArray), (w.heap.size + 1, 112, Z), (w.heap.size, 52, n.cells.toArray)] y4 ∧ nC w.heap.size y4 y := ⟨hS.1.turn oq bq (by have := G3.out; omega) (fun x hx => by
  have := G3.out
  simp only [List.mem_cons, List.not_mem_nil, or_false] at hx
  rcases hx with rfl | rfl <;> simp only <;> omega), hS.2.only oq (hS.1.b (g6) (112) ((⟨y, n.z⟩ : dJ).cells.toArray) (by simp)) sF⟩
 refine hK.out _ _ hT (fun hS => ?_)
 clear hK Kq oq bq hT
 go_simp
 refine wpAnyH_done (by kernel_rfl) ?_ _
 have H4 := qh hS.1
 have O4 := qh hS.2
 clear hS
 go_wp2_with (first
  | ((with_reducible refine az 32 ?_); refine j5.af rfl (.tmp 32) rfl w.heap.size 1063 rfl n.z (dJ.pool (au.ah (H4.out.b (w.heap.size) (52) (n.cells.toArray) (by simp)))) ?_))
 refine (TX.out _).mono ?_
 rintro e w5 ⟨g5, hg5, rfl, k5, b5⟩
 have H5 := qh (H4.out.call b5)
 have O5 := qh (O4.out.from b5)
 clear hg5 k5 b5 H4 O4
 go_wp2_with fail
 refine wp_loop_rounds 1 ?_
 rw [rounds_succ]
 go_wp2_with (first
  | ((with_reducible refine az 6 ?_); refine BJ.af rfl (.tmp 6) rfl g6 0 rfl (⟨y, n.z⟩ : dJ) (au.ah (H5.out.b (g6) (112) ((⟨y, n.z⟩ : dJ).cells.toArray) (by simp))) ?_)
  | ((with_reducible refine ag 2 49 ?_); refine BJ.aj rfl (.tmp 2) (.tmp 49) rfl rfl (w.heap.size + 1) (⟨y, n.z⟩ : dJ) rfl rfl 112 _ (H5.out.b (w.heap.size + 1) (112) (Z) (by simp)) (by rw [HS.out.1]) ?_; intro w6 o6 b6))
 exact bodyPost_ret (aU rfl _ _ (w.heap.size + 1) 112 _ (0, 0) _ rfl b6 Tryz.underlying112 rfl (by rw [BJ.arr]; kernel_rfl)) rfl ⟨y, HY.out, rfl, O5.out.only o6 (H5.out.b (w.heap.size + 1) (112) (Z) (by simp)) sF, H5.out.below.trans (o6.below (by simp))⟩
end
section
open Go.RowKit
def dN (h : aQ .u32) (k : aS) (v : aQ .i64) : dX := ⟨dF 0, [(ai, h)], [(v, k)], ai, [], [], tL 0⟩
def vS : aQ .i64 := ⟨5000000, by decide⟩
theorem Uj : 0 ≤ vS.1 ∧ vS.1 ≤ 2100000000000000 := ⟨by decide, by decide⟩
theorem kX (h : aQ .u32) (k : aS) (v : aQ .i64) : ry (dN h k v) := ⟨by show 1 ≤ 40; decide, by show 1 ≤ 40; decide, by show 0 ≤ 40; decide, by show 0 ≤ 40; decide, fun _ => rfl⟩
theorem Kk (h : aQ .u32) (k : aS) (v : aQ .i64) : (fA (dN h k v)).2 = 0 := by rw [xA _ (kX h k v)]
theorem qJ (h : aQ .u32) (k : aS) (v : aQ .i64) : gy (dN h k v) = true := by
 show decide (ai = ai) = true
 exact decide_eq_true rfl
theorem Es (h : aQ .u32) (k : aS) (v : aQ .i64) : (dN h k v).dW.1 = 0 := rfl
theorem Ki {h : aQ .u32} {k : aS} {v : aQ .i64} (_ : 0 ≤ v.1 ∧ v.1 ≤ 2100000000000000) : fV (dN h k v) = [v.1] := by
 rfl
theorem qU {a b : Int} (h1 : 0 ≤ a) (h2 : 0 ≤ b) (h3 : a + b ≤ 2100000000000000) : aaX a b = some (a + b) := by
 unfold aaX
 rw [qK (by omega), qK (by omega), qK (by omega)]
 rfl
theorem Er {h : aQ .u32} {k : aS} {v : aQ .i64} (hv : 0 ≤ v.1 ∧ v.1 ≤ 2100000000000000) : gI 0 (fV (dN h k v)) = some v.1 := by
 rw [Ki hv]
 unfold gI
 rw [qU (by omega) hv.1 (by omega)]
 show some (0 + v.1) = some v.1
 rw [Int.zero_add]
theorem GH {h : aQ .u32} {k : aS} {v : aQ .i64} (hv : 0 ≤ v.1 ∧ v.1 ≤ 2100000000000000) : lW (dN h k v) = some v.1 := by
 unfold lW
 rw [Er hv, Es]
 show aaX v.1 (-0) = some v.1
 rw [Int.neg_zero, qU hv.1 (by omega) (by omega), Int.add_zero]
theorem GI {h : aQ .u32} {k : aS} {v : aQ .i64} (hv : 0 ≤ v.1 ∧ v.1 ≤ 2100000000000000) : fB (dN h k v) true = 0 := by
 unfold fB
 rw [if_neg (by rw [Kk]; decide)]
 have h1 : yC (dN h k v) = false := rfl
 have h2 : iL (dN h k v) true = false := by unfold iL; rw [qJ]; rfl
 have h3 : pR (dN h k v) = false := by
  unfold pR
  have q1 : (dN h k v).ins.Nodup := by show [(ai, h)].Nodup; simp
  have q2 : (dN h k v).av.Nodup := by show ([] : List aS).Nodup; simp
  rw [decide_eq_true q1, decide_eq_true q2]
  rfl
 have h4 : oF (dN h k v) = false := by
  unfold oF
  rw [Er hv]
  rfl
 rw [h1, h2, h3, h4]
 rfl
def iT (h : aQ .u32) (k : aS) (v : aQ .i64) : aD := ⟨((wC (dN h k v)).1, dF 0), (v, k), h, true⟩
theorem GJ (l : List aD) (h : aQ .u32) (k : aS) (v : aQ .i64) : iH l (dN h k v) (wC (dN h k v)).1 h = if (gW aD.at_ l (iT h k v).at_).isSome then .error 4 else .ok (iK aD.at_ jO (iT h k v) l, []) := by
 unfold iH Aa
 rw [if_pos (qJ h k v), qJ]
 have hm : iw (wC (dN h k v)).1 h true 0 (dN h k v).outs = [iT h k v] := rfl
 simp only [hm]
 by_cases hf : (gW aD.at_ l (iT h k v).at_).isSome = true
 ·rw [if_pos hf]
  unfold iX
  rw [if_pos hf]
 ·rw [if_neg hf]
  unfold iX
  rw [if_neg hf]
  rfl
theorem GG {w : zu} {k : aS} {v : aQ .i64} (hv : 0 ≤ v.1 ∧ v.1 ≤ 2100000000000000) (hp : dI w.pool = true) (hc : dI w.came = true) (hs : w.pool + w.came ≤ 2100000000000000) (hf : v.1 = 5000000 + w.jv) (hn : gW aD.at_ w.aV (iT w.h k v).at_ = none) :
 jH w (dN w.h k v) = .ok (iK aD.at_ jO (iT w.h k v) w.aV, w.pool + w.came) := by
 have p1 := gU hp
 have p2 := gU hc
 unfold jH
 rw [GJ, hn]
 simp only [Option.isSome_none, Bool.false_eq_true, if_false]
 have h1 : rY w.pool w.came (dN w.h k v).dW.1 = some (w.pool, w.came) := by
  rw [Es]
  unfold rY
  rw [if_neg (by omega)]
  show (aaX w.came (-0)).map _ = _
  rw [Int.neg_zero, qU p2.1 (by omega) (by omega), Int.add_zero]
  rfl
 rw [h1]
 simp only
 rw [qU p1.1 p2.1 hs]
 simp only
 rw [GH hv, if_pos (by rw [hf])]
theorem Oy {c : C0} {k : aS} {B : bK} {l : List rM} (hB : B.bG = [dN (sU c.h) k vS]) (hp : B.prev = c.gB) (hr : B.root = pF c.tree 32) (h1 : dI c.pool = true) (hn : gW aD.at_ c.aV (iT (sU c.h) k vS).at_ = none) :
 vW c B l = .ok ⟨sU c.h, (qY B).1, iK aD.at_ jO (iT (sU c.h) k vS) c.aV, c.av, c.tree, ou c.ring B.root, c.pool⟩ := by
 have hok : pI B := ⟨by rw [hB]; show 0 < 1; decide, by rw [hB]; show 1 ≤ 30; decide, fun T hT => by rw [hB, List.mem_singleton] at hT; rw [hT]; exact kX _ _ _⟩
 have hlen : (nu B).length ≤ 20000 := by
  rw [zl B hok, hB]
  show 69 + ((vz (dN (sU c.h) k vS)).length + 0) ≤ 20000
  rw [tK _ (kX _ _ _)]
  show 69 + (4 + 1 + 36 * 1 + 1 + 40 * 1 + 1 + 32 * 0 + 1 + 32 * 0 + 8 + _ + 0) ≤ 20000
  split <;> omega
 have hbase : kI B = dN (sU c.h) k vS := by unfold kI; rw [hB]; rfl
 have hsig : jW B.bG = 0 := by
  rw [hB]
  show (if gy (dN (sU c.h) k vS) = true then 0 else _) + 0 = 0
  rw [if_pos (qJ _ _ _)]
  rfl
 have hnot : dz B.bG = [] := by rw [hB]; rfl
 have hpl := gU h1
 unfold vW
 rw [if_neg (fun h => h hp), za B hok, if_neg (by simp), if_neg (by rw [hsig]; simp only; omega), hbase, GI Uj, if_neg (by simp)]
 have he : EU (dN (sU c.h) k vS).exp.1 (sU c.h).1 = false := rfl
 rw [if_neg (by rw [he]; decide), hB]
 show (match qw l (dV c) [] with
  | .error e => Except.error e
  | .ok w => _) = _
 have ha : qw l (dV c) [] = .ok (dV c) := rfl
 rw [ha]
 simp only
 have hc := GG (w := dV c) (k := k) (v := vS) Uj h1 (qK (by show (0 : Int) ≤ 0 ∧ (0 : Int) ≤ _; omega)) (by show c.pool + 0 ≤ _; omega) rfl hn
 rw [show (dV c).h = sU c.h from rfl] at hc
 rw [hc]
 simp only
 have hroot : ja c.tree B = .ok c.tree := by
  unfold ja
  rw [hnot]
  show (if (0 : Int) ≠ 0 then _ else if pF c.tree 32 = B.root then _ else _) = _
  rw [if_neg (by simp), if_pos hr.symm]
  rfl
 rw [hroot]
 simp only
 rw [show (dV c).pool + (dV c).came = c.pool from Int.add_zero _]
 rfl
end
section
open Go.RowKit
def mA (z : aQ .u32) (k : aS) (v : aQ .i64) (g h : Nat) : aY := ⟨dN z k v, some ⟨g, 0, none⟩, 1, some ⟨h, 0, none⟩, 1, none, 0, none, 0⟩
def mP (z : aQ .u32) : Array Value := (cellsOf (aR .u32) [((ai, z) : PtC)]).toArray
theorem aad : ((Tryz.prog.info? 144).bind (·.zero)).isSome = true := by kernel_rfl
theorem Sj (z : aQ .u32) (k : aS) (f : Int) (v : aQ .i64) (w : World) (hv : IntKind.i64.wrap (5000000 + f) = v.1) :
 Calls Tryz.prog 38 #[.int .u32 z.1, .agg (ak k).toArray, .int .i64 f] w fun e w' => ∃ a : aY, e = .returned (.agg a.cells.toArray) ∧ a.T = dN z k v ∧ Bq w.heap.size w' a ∧ Below w.heap.size w w' := by
 go_enter Tryz.func38, Tryz.ntmps38
 go_wp2_with (first
  | ((with_reducible refine bW 8 ?_); refine bu rfl 142 #[(1, .tmp 7)] rfl (aR .u32 ((ai, z) : PtC)).toArray (Yr _ rfl z) ?_)
  | ((with_reducible refine nA 9 ?_); refine jU.wpList_build rfl ZU 1 _ rfl [((ai, z) : PtC)] rfl (by omega) (by omega) (by kernel_rfl) ?_)
  | ((with_reducible refine az 4 ?_); refine bL.af rfl (.tmp 4) rfl w.heap.size 0 rfl k (au.ah (((ax.new w 26 _).alloc _).alloc _)) ?_)
  | ((with_reducible refine bW 13 ?_); refine bu rfl 144 #[(0, .tmp 11), (1, .tmp 12)] rfl (dR .i64 (v, k)).toArray ((congrArg (Tryz.prog.built 144) (show _ = [(0, Value.int .i64 v.1), (1, Value.agg (ak k).toArray)] by kernel_rfl)).trans (Fx _ rfl k v)) ?_)
  | ((with_reducible refine nA 14 ?_); refine nD.wpList_build rfl aad 1 _ rfl [(v, k)] rfl (by omega) (by omega) (by kernel_rfl) ?_)
  | ((with_reducible refine bW 15 ?_); simp only [World.size_alloc]; refine bu rfl 92 #[(1, .tmp 9), (2, .tmp 14)] rfl (mA z k v (w.heap.size + 1 + 1) (w.heap.size + 1 + 1 + 1)).cells.toArray (by kernel_rfl) ?_)
  | ((with_reducible refine ag 6 15 ?_); refine di.aj rfl (.tmp 6) (.tmp 15) rfl rfl (w.heap.size + 1) (mA z k v (w.heap.size + 1 + 1) (w.heap.size + 1 + 1 + 1)) rfl rfl 92 _ (((bg (g := w.heap.size + 1) 92 _ (by simp)).alloc _).alloc _) rfl ?_; intro w3 o3 b3))
 have P3 := o3.blk ((ax.new ((w.alloc _).alloc _) 142 (mP z)).alloc _) (by simp)
 have Q3 := o3.blk (ax.new (((w.alloc _).alloc _).alloc _) 144 (cellsOf (dR .i64) [(v, k)]).toArray) (by simp; omega)
 simp only [World.size_alloc] at P3 Q3
 have B3 := (((((Below.refl w.heap.size w).alloc (Nat.le_refl _) _).alloc (by simp) _).alloc (by simp; omega) _).alloc (by simp; omega) _).trans (o3.below (by simp))
 exact bodyPost_ret (aU rfl _ _ (w.heap.size + 1) 92 _ (0, 0) _ rfl b3 Tryz.underlying92 rfl (by rw [di.arr]; kernel_rfl)) rfl ⟨(mA z k v (w.heap.size + 1 + 1) (w.heap.size + 1 + 1 + 1)), rfl, rfl, ⟨gq (fT .u32) (l := [((ai, z) : PtC)]) P3 (by omega) rfl (show 1 ≤ maxLen by decide), gq (fU .i64) (l := [(v, k)]) Q3 (by omega) rfl (show 1 ≤ maxLen by decide), World.ownsRow_nil _ _ _ _, World.ownsRow_nil _ _ _ _⟩, B3⟩
end
section
open Go.RowKit Go.Lib
theorem aaf (w : World) : Calls Tryz.prog 194 #[.int .u64 0] w fun e w' => e = .returned (.int .i64 0) ∧ w' = w := by
 go_enter Tryz.func194, Tryz.ntmps194
 go_wp2_with fail
 go_ret
 exact ⟨by kernel_rfl, rfl⟩
theorem FB (w : World) : Calls Tryz.prog 168 #[.int .u64 0] w fun e w' => e = .returned (.int .i64 0) ∧ w' = w := by
 go_enter Tryz.func168, Tryz.ntmps168
 go_wp2_with fail
 refine (aaf _).mono ?_
 rintro e w1 ⟨rfl, rfl⟩
 go_wp2_with fail
 go_ret
 exact ⟨rfl, rfl⟩
theorem Vp (b c : Value) (w : World) : Calls Tryz.prog 233 #[.agg #[b, c], .int .i64 0, .int .i64 0] w fun e w' => e = .returned (.tuple #[]) ∧ Below w.heap.size w w' := by
 have B0 := qh (show ∀ cs t, Below w.heap.size w (w.alloc (.cells cs t)) from fun _ _ => (Below.refl _ _).alloc (Nat.le_refl _) _)
 go_enter Tryz.func233, Tryz.ntmps233
 go_wp2_with fail
 refine wp_loop_rounds 1 ?_
 rw [rounds_succ]
 go_wp2_with fail
 exact ⟨rfl, .tuple #[], by kernel_rfl, rfl, B0.out _ _⟩
theorem Vi (b c : Value) (l : Int) (w : World) : Calls Tryz.prog 169 #[.agg #[b, c], .int .i64 0, .int .i64 0, .int .i64 l] w fun e w' => e = .returned (.tuple #[]) ∧ Below w.heap.size w w' := by
 have B0 := qh (show ∀ cs t, Below w.heap.size w (w.alloc (.cells cs t)) from fun _ _ => (Below.refl _ _).alloc (Nat.le_refl _) _)
 go_enter Tryz.func169, Tryz.ntmps169
 go_wp2_with fail
 refine wp_loop_rounds 1 ?_
 rw [rounds_succ]
 go_wp2_with fail
 refine (Vp b c _).mono ?_
 rintro e w1 ⟨rfl, b1⟩
 go_wp2_with fail
 exact ⟨rfl, .tuple #[], by kernel_rfl, rfl, (B0.out _ _).trans (b1.mono (by simp))⟩
theorem Rt (lf : Fn) (la lb : Array Value) (w : World) : Calls Tryz.prog 105 #[.iface 138 (.slice none 0 0), .func lf la lb] w fun e w' => e = .returned (.tuple #[]) ∧ Below w.heap.size w w' := by
 obtain ⟨i, hi, hd⟩ := Option.map_eq_some_iff.1 (show (Tryz.prog.info? 138).map (·.desc) = some (.slice 132) by kernel_rfl)
 obtain ⟨ie, hie⟩ : ∃ ie, Tryz.prog.info? 132 = some ie := Option.isSome_iff_exists.1 (by kernel_rfl)
 obtain ⟨ke, hke⟩ : ∃ ke, ∀ w, (Extern.Rtype.kind 132).run Tryz.prog w = .ok ke w := ⟨25, fun w => by kernel_rfl⟩
 have hv := run_valueOf_slice (P := Tryz.prog) 138 132 i hi hd none 0 0 w
 have hs := fun w => run_swapper_slice (P := Tryz.prog) 138 132 i ie hi hd hie ke hke none 0 0 223 (by show Tryz.prog.funcs.findIdx? (·.name == "internal/reflectlite" ++ ".Swapper$" ++ toString 1) = _; kernel_rfl) w
 have hl := fun a w ha => run_valueLen_slice (P := Tryz.prog) 138 132 i hi hd (by kernel_rfl) a none 0 0 w ha
 have hb := fun w => FB w
 have hp := fun b c l w => Vi b c l w
 clear hi hd hie hke
 have hk : swapperK 0 ie ke = 1 := rfl
 simp only [hk, show (1 : Nat) ≤ 2 from by decide, if_true] at hs
 obtain ⟨G, hG⟩ : ∃ G, Tryz.prog.globals.size = G := ⟨_, rfl⟩
 simp only [typeHandle, hG] at hv hl
 have B0 := qh (show ∀ a t b u, Below w.heap.size w ((w.alloc (.cells a t)).alloc (.cells b u)) from fun _ _ _ _ => ((Below.refl _ _).alloc (Nat.le_refl _) _).alloc (by simp) _)
 go_enter Tryz.func105, Tryz.ntmps105
 go_wp2
 rw [run_callFunc_extern Tryz.func165 (by kernel_rfl) (by kernel_rfl) (by kernel_rfl) (e := fun args => Extern.ReflectliteValue.unpack (args.getD 0 (.tuple #[]))) (by kernel_rfl),
  show Sem.run Tryz.prog ((fun args : Array Value => Extern.ReflectliteValue.unpack (args.getD 0 (.tuple #[]))) #[.iface 138 (.slice none 0 0)]) w = _ from hv]
 simp only [Result.andThen]
 rw [Oper.upon_value]
 go_wp2
 rw [run_callFunc_extern Tryz.func166 (by kernel_rfl) (by kernel_rfl) (by kernel_rfl) (e := Extern.ReflectliteSwapper.swapper "internal/reflectlite" (Extern.ReflectliteValue.valueError "Swapper")) (by kernel_rfl), hs]
 simp only [Result.andThen]
 rw [Oper.upon_value]
 go_wp2
 rw [run_callFunc_extern Tryz.func167 (by kernel_rfl) (by kernel_rfl) (by kernel_rfl) (e := Extern.ReflectliteValue.method (Extern.ReflectliteValue.valueError "reflectlite.Value.Len" 0) Extern.ReflectliteValue.len) (by kernel_rfl),
  hl _ _ (by simp)]
 simp only [Result.andThen]
 rw [Oper.upon_value]
 go_wp2_with fail
 refine (hb _).mono ?_
 rintro e w1 ⟨rfl, rfl⟩
 go_wp2_with fail
 refine (hp _ _ _ _).mono ?_
 rintro e w2 ⟨rfl, b2⟩
 go_wp2_with fail
 exact ⟨rfl, .tuple #[], by kernel_rfl, rfl, (B0.out _ _ _ _).trans (b2.mono (by simp; omega))⟩
end
section
open Go.RowKit
def okW (z : aQ .i64) : Bool := !(decide (z.1 < 1)) && !(decide (1099511627776 < z.1))
def wP : List (aQ .i64) → Int
 | [] => 0
 | z :: l => z.1 + wP l
def Gb (l : List (aQ .i64)) : Option Int := if l.all okW && decide (l.length ≤ 1000) then some (wP l) else none
def Mw (l : List (aQ .i64)) : Value := .tuple #[.int .i64 ((Gb l).getD 0), .bool (Gb l).isSome]
end
section
open Go.RowKit
def Uv : Int → List (aQ .i64) → Nat
 | _, [] => 0
 | n, z :: l => if n < z.1 then 0 else Uv (n - z.1) l + 1
def Nl (l : List (aQ .i64)) (d : Int) : Option Nat := match Gb l with
 | some s => if s = 0 then none else some (Uv (d.tmod s) l)
 | none => none
def IJ (l : List (aQ .i64)) (d : Int) : Value := .tuple #[.int .i64 (((Nl l d).getD 0 : Nat) : Int), .bool (Nl l d).isSome]
end
section
open Go.RowKit Go.Shelf
attribute [local go_sem] Oper.semAt_some
def UN (l : List (aQ .i64)) : Bool := l.all okW && decide (l.length ≤ 1000)
theorem Mv (l : List (aQ .i64)) : Gb l = if UN l then some (wP l) else none := rfl
theorem Rf (F : Fence) (n : Nat) (hf : F.fn 177) (hro : F.round = none) (A : Option Addr) (m c : Nat) (w : World) :
 CallsIn F n Tryz.prog 177 #[.slice A m c] w fun e w' => e = .returned (.func (.func 246) #[] #[.pointer (some ⟨w.heap.size, 0, none⟩)]) ∧ w' = w.alloc (.cells #[.slice A m c] 184) := by
 refine callsIn_of_wp Tryz.func177 rfl hf ?_ hro
 simp only [Tryz.ntmps177, List.size_toArray, List.length_cons, List.length_nil, Nat.reduceAdd, Nat.reduceSub, Array.replicate_succ, Array.replicate_zero, List.push_toArray, List.append_toArray, List.nil_append, List.cons_append]
 gi_wp2
 go_ret
 exact ⟨rfl, rfl⟩
def Uq (l : List (aQ .i64)) (x : Fin l.length) : Array Value := #[.int .i64 (x.1 : Int), .int .i64 (wP (l.take (x.1 + 1)))]
theorem BR (F : Fence) (n : Nat) (hf : F.fn 246) (hro : F.round = none) (b Bs : Nat) (A : Option Addr) (c : Nat) (l : List (aQ .i64)) (J : List (Fin l.length) → World → Prop) (W : World)
 (GX : ax W Bs 184 #[.slice A l.length c]) (hz : l.length = 0) (h0 : J [] W) :
 CallsIn F n Tryz.prog 246 #[.func (.yield b) #[] #[], .pointer (some ⟨Bs, 0, none⟩)] W fun e W' => (∃ v, e = .returned v) ∧ J [] W' := by
 have c3 : W.cell? ⟨Bs, 0, none⟩ = some (.slice A 0 c) := by have := GX.cell 0; rw [hz] at this; exact this
 clear GX hz
 refine callsIn_of_wp Tryz.func246 rfl hf ?_ hro
 simp only [Tryz.ntmps246, List.size_toArray, List.length_cons, List.length_nil, Nat.reduceAdd, Nat.reduceSub, Array.replicate_succ, Array.replicate_zero, List.push_toArray, List.append_toArray, List.nil_append, List.cons_append]
 gi_wp2
 gi_loopw [3, 8] (fun s i wr => s = .int .i64 0 ∧ i = .int .i64 0 ∧ J [] wr) (fun _ _ _ => 0)
 case atStart => exact ⟨rfl, rfl, h0⟩
 case round =>
  obtain ⟨rfl, rfl, hJs⟩ := hrel
  gi_wp2
  go_end0
  exact ⟨⟨_, rfl⟩, hJs⟩
end
section
open Go.RowKit Go.Shelf
attribute [local go_sem] Oper.semAt_some
def Eu (l : List (aQ .i64)) (pre : List (Fin l.length)) : Int := match pre.getLast? with
 | none => 0
 | some x => wP (l.take (x.1 + 1))
theorem GQ (l : List (aQ .i64)) (pre : List (Fin l.length)) (x : Fin l.length) : Eu l (pre ++ [x]) = wP (l.take (x.1 + 1)) := by
 unfold Eu
 rw [List.getLast?_concat]
theorem Ku (l : List (aQ .i64)) : Eu l (List.finRange l.length) = wP l := by
 unfold Eu
 by_cases hz : l.length = 0
 ·have : List.finRange l.length = [] := List.eq_nil_of_length_eq_zero (by rw [List.length_finRange]; exact hz)
  rw [this]
  have h2 : l = [] := List.eq_nil_of_length_eq_zero hz
  rw [h2]
  rfl
 ·have h1 : (List.finRange l.length).getLast? = some ⟨l.length - 1, by omega⟩ := by
   rw [List.getLast?_eq_getElem?, List.length_finRange, List.getElem?_eq_getElem (by rw [List.length_finRange]; omega)]
   simp
  rw [h1]
  show wP (l.take (l.length - 1 + 1)) = wP l
  rw [show l.length - 1 + 1 = l.length by omega, List.take_length]
end
section
open Go.RowKit Go.Shelf
attribute [local go_sem] Oper.semAt_some
theorem aae (A : Option Addr) (c : Nat) (w : World) : Calls Tryz.prog 245 #[.slice A 0 c] w fun e w' => e = .returned (.bool true) ∧ Below w.heap.size w w' := by
 go_enter Tryz.func245, Tryz.ntmps245
 go_wp2_with fail
 refine wp_loop_rounds 1 ?_
 rw [rounds_succ]
 go_wp2_with fail
 go_ret
 exact ⟨rfl, Below.refl _ _⟩
theorem U8 (F : Fence) (n : Nat) (hf : F.fn 246) (hro : F.round = none) (Bs n₀ : Nat) (A : Option Addr) (c : Nat) (l : List (aQ .i64)) (hl : l = []) (w : World) (GX : ax w Bs 184 #[.slice A l.length c]) :
 SeqStopsK F n Tryz.prog 246 #[.pointer (some ⟨Bs, 0, none⟩)] (Uq l) (Below n₀) (fun ys => ys = List.finRange l.length) (fun pre => ∃ k, k ≤ l.length ∧ pre = (List.finRange l.length).take k) l.length w := fun b J Jx W hW hJ _ hY h0 => by
 subst hl
 exact (BR F n hf hro b Bs A c [] J W (aa hW GX GX.lt) rfl h0).mono fun e W' ⟨he, hj⟩ => ⟨he, .inl ⟨[], rfl, hj⟩⟩
theorem aaa (A : Option Addr) (c : Nat) (l : List (aQ .i64)) (hl : l = []) (w : World) : Calls Tryz.prog 176 #[.slice A l.length c] w fun e w' => e = .returned (Mw l) ∧ Below w.heap.size w w' := by
 have hM : UN l = true := by rw [hl]; rfl
 have HR := qh (show Mw l = .tuple #[.int .i64 (wP l), .bool true] by unfold Mw; rw [Mv, hM]; rfl)
 have HL := qh hl
 have MY := qh (aae A c w)
 have hl0 : l.length = 0 := by rw [hl]; rfl
 rw [← hl0] at MY
 clear hM hl hl0
 refine (callsIn_wide (n := 9)).1 ?_
 refine callsIn_of_wp_marks Tryz.func176 rfl trivial ?_ rfl
 refine wpIn_wide.2 ?_
 simp only [Tryz.ntmps176, List.size_toArray, List.length_cons, List.length_nil, Nat.reduceAdd, Nat.reduceSub, Array.replicate_succ, Array.replicate_zero, List.push_toArray, List.append_toArray, List.nil_append, List.cons_append]
 go_wp2_with fail
 refine MY.out.mono ?_
 rintro e w1 ⟨rfl, b1⟩
 have HB1 := qh b1
 clear b1 MY
 go_wp2_with fail
 refine (callsIn_wide.1 (Rf Fence.wide 9 trivial rfl A l.length c _)).mono ?_
 rintro e w2 ⟨rfl, rfl⟩
 go_wp2_with fail
 rw [← wpIn_wide (n := 9)]
 have bN := (Boxed.new w1 2 (.int .i64 0)).alloc (.cells #[.slice A l.length c] 184)
 have bA := ax.new (w1.alloc (.cells #[.int .i64 0] 2)) 184 #[.slice A l.length c]
 simp only [World.size_alloc] at bN bA
 have hB0 : Below w.heap.size w ((w1.alloc (.cells #[.int .i64 0] 2)).alloc (.cells #[.slice A l.length c] 184)) := (HB1.out.alloc HB1.out.size _).alloc (by have := HB1.out.size; simp; omega) _
 have hsz : ((w1.alloc (.cells #[.int .i64 0] 2)).alloc (.cells #[.slice A l.length c] 184)).heap.size = w1.heap.size + 2 := by simp
 have hsw : w.heap.size ≤ w1.heap.size := HB1.out.size
 obtain ⟨s1, hs1⟩ : ∃ s1, w1.heap.size = s1 := ⟨_, rfl⟩
 obtain ⟨W0, hW0⟩ : ∃ W0, (w1.alloc (.cells #[.int .i64 0] 2)).alloc (.cells #[.slice A l.length c] 184) = W0 := ⟨_, rfl⟩
 rw [hW0] at bN bA hB0 hsz ⊢
 simp only [hs1] at bN bA hsz hsw ⊢
 clear hW0 HB1
 refine wpIn_rangeFunc_ownG rfl (by omega) (gf := 246) (lb := #[.pointer (some ⟨s1 + 1, 0, none⟩)]) rfl trivial (enters_of Tryz.func246 (by kernel_rfl) rfl)
  (U8 Fence.wide 8 trivial rfl (s1 + 1) w.heap.size A c l HL.out W0 bA) belowK_t (belowK_b (by omega)) (Below.refl _ _) (fun _ => rfl)
  (fun pre W => Boxed W s1 2 (.int .i64 (Eu l pre)) ∧ Below w.heap.size w W)
  (fun _ _ _ => False)
  (OwnFrom.and (Own.from (boxed_own _ _ _) _) (ownFrom_below (Nat.le_refl _) (by omega)))
  (fun _ _ _ _ _ hs _ _ => hs)
  ⟨bN, hB0⟩
  (fun x => { tmps := #[.slice A l.length c, undef, .int .i64 0, .bool false, .pointer (some ⟨s1, 0, none⟩), undef, .int .i64 (wP (l.take (x.1 + 1))), .slice A l.length c, .bool true, .bool false, .slice A l.length c, .func (.func 246) #[] #[.pointer (some ⟨s1 + 1, 0, none⟩)], .int .i64 (x.1 : Int), .int .i64 (wP (l.take (x.1 + 1))), undef, undef], defers := [] })
  ?assign ?body ?done ?stop
 case assign =>
  intro l1 x W K hK
  unfold Uq
  gi_wp2
  exact hK
 case body =>
  rintro l1 pre x W ⟨b1, hB1⟩ hlt
  have cN := b1.cell
  have fN := b1.frozen
  gi_wp2
  refine ⟨(KeepsOthers.setCell _ _ _).from _, (Below.refl _ _).setCell (p := ⟨s1, 0, none⟩) (by simp; omega) _, ?_, hB1.setCell (p := ⟨s1, 0, none⟩) (by simp; omega) _⟩
  rw [GQ]
  exact b1.set _
 case done =>
  rintro D ys W hD rfl ⟨b1, hB1⟩ hK
  have cN := b1.cell
  rw [Ku] at cN
  go_wp2
  refine ⟨by simp, .inl ⟨_, _, rfl, run_takeDeferred hK, ?_⟩⟩
  refine ⟨_, results_tmp2 rfl _ _ _, ?_, hB1.trans (belowK_b (w := w) (Nat.le_refl _) W D _ _ (by omega) hK rfl rfl)⟩
  rw [HR.out]
  rfl
 case stop =>
  rintro D c pre W _ _ h _
  exact h.elim
theorem Xt (A : Option Addr) (c : Nat) (l : List (aQ .i64)) (hl : l = []) (d : aQ .u64) (w : World) : Calls Tryz.prog 108 #[.slice A l.length c, .int .u64 d.1] w fun e w' => e = .returned (IJ l d.1) ∧ Below w.heap.size w w' := by
 have SU := qh (fun W => aaa A c l hl W)
 obtain ⟨s, hs⟩ : ∃ s, (Gb l).getD 0 = s := ⟨_, rfl⟩
 obtain ⟨q, hq⟩ : ∃ q, (Gb l).isSome = q := ⟨_, rfl⟩
 have HV := qh (show Mw l = .tuple #[.int .i64 s, .bool q] by unfold Mw; rw [hs, hq])
 have b4 := (Boxed.new w 3 (.int .i64 0)).alloc (.cells #[.bool false] 4)
 have b5 := Boxed.new (w.alloc (.cells #[.int .i64 0] 3)) 4 (.bool false)
 have B0 : Below w.heap.size w ((w.alloc (.cells #[.int .i64 0] 3)).alloc (.cells #[.bool false] 4)) := ((Below.refl _ w).alloc (Nat.le_refl _) _).alloc (by simp) _
 simp only [World.size_alloc] at b5
 have hz : s = 0 := by rw [← hs, hl]; rfl
 have HR := qh (show IJ l d.1 = .tuple #[.int .i64 0, .bool false] by
  unfold IJ Nl
  cases hS : Gb l with
  | none => rfl
  | some s' =>
   rw [hS] at hs
   have : s' = 0 := by rw [← hz, ← hs]; rfl
   simp [this])
 subst hz
 have W4 := qh b4
 have W5 := qh b5
 have H0 := qh B0
 clear hs hq hl b4 b5 B0
 go_enter Tryz.func108, Tryz.ntmps108
 go_wp2_with fail
 refine (SU.out _).mono ?_
 rintro e w1 ⟨rfl, b1⟩
 rw [HV.out]
 have B1 : Below w.heap.size w w1 := H0.out.trans (b1.mono H0.out.size)
 have c4 : Boxed w1 w.heap.size 3 (.int .i64 0) := (b1.block _ W4.out.lt).trans W4.out
 have c5 : Boxed w1 (w.heap.size + 1) 4 (.bool false) := (b1.block _ W5.out.lt).trans W5.out
 have k4 := c4.cell
 have f4 := c4.frozen
 have k5 := c5.cell
 have f5 := c5.frozen
 have C4 := qh c4
 have C5 := qh c5
 have HB := qh B1
 clear b1 SU c4 c5 B1
 go_wp2_with fail
 have e4 := ((C4.out.set (.int .i64 0)).other (B' := w.heap.size + 1) (by omega) (.bool false)).cell
 have e5 := ((C5.out.other (B' := w.heap.size) (by omega) (.int .i64 0)).set (.bool false)).cell
 refine bodyPost_ret (v := .tuple #[.int .i64 0, .bool false]) (by simp [results, Tryz.f108, go_sem, e4, e5]) rfl ?_
 exact ⟨by rw [HR.out], (HB.out.setCell (p := ⟨w.heap.size, 0, none⟩) (Nat.le_refl _) _).setCell (p := ⟨w.heap.size + 1, 0, none⟩) (by simp) _⟩
end
section
open Go.RowKit
def jL (a : jE) : List Value := a.cells ++ [.slice none 0 0, .int .i64 161, .int .i64 0, .int .i64 0, .slice none 0 0, .slice none 0 0, .slice none 0 0]
theorem Dw {a : jE} {W : World} {g : Nat} (h : ax W g 140 (jL a).toArray) (i : Nat) (v : Value) (hv : (jL a)[i]? = some v) : W.cell? ⟨g, i, none⟩ = some v := by
 rw [h.cell]
 simpa using hv
theorem TH (d : CA) (z : aQ .u64) (w : World) (hd : d.c.In w w.heap.size) (hn : kE d.c.C) :
 Calls Tryz.prog 64 #[.agg d.cells.toArray, .agg (aA z).toArray, .slice none 0 0] w fun e w' => ∃ (g : Nat) (y : eT), y.C = d.c.C ∧ e = .returned (.pointer (some ⟨g, 0, none⟩)) ∧ ax w' g 140 (jL (aP y)).toArray ∧ w.heap.size ≤ g ∧ Below w.heap.size w w' := by
 have H0 := qh (show Holds w [(w.heap.size + 1, 50, (aA z).toArray), (w.heap.size, 45, d.cells.toArray)] ((w.alloc (.cells d.cells.toArray 45)).alloc (.cells (aA z).toArray 50)) from by
  have := ((Holds.nil w).box 45 d.cells.toArray).box 50 (aA z).toArray
  simpa only [World.size_alloc] using this)
 have ST := qh (fun V (hb : Below w.heap.size w V) => yf d V ((hd.below hb).more hb.size) hn)
 have TX := qh (fun V => Cg z V)
 have SO := qh (fun lf la lb V => Rt lf la lb V)
 clear hd hn
 go_enter Tryz.func64, Tryz.ntmps64
 go_wp2_with (first
  | ((with_reducible refine az 3 ?_); refine cO.af rfl (.tmp 3) rfl w.heap.size 0 rfl d (au.ah (H0.out.b (w.heap.size) (45) (d.cells.toArray) (by simp))) ?_))
 refine (ST.out _ H0.out.below).mono ?_
 rintro e w1 ⟨y, hy, rfl, oy, b1⟩
 have HY := qh hy
 have H1 := qh ((H0.out.call b1).box 140 (jL (aP y)).toArray)
 have G1 := qh (show w.heap.size ≤ w1.heap.size from (H0.out.call b1).below.size)
 clear hy oy b1 H0 ST
 go_wp2_with (first
  | ((with_reducible refine bW 14 ?_); refine bu rfl 140 #[(0, .tmp 12), (2, .const (.int .i64 161)), (7, .tmp 13)] rfl (jL (aP y)).toArray (by kernel_rfl) ?_)
  | ((with_reducible refine az 4 ?_); refine j5.af rfl (.tmp 4) rfl (w.heap.size + 1) 0 rfl z (au.ah (H1.out.b (w.heap.size + 1) (50) ((aA z).toArray) (by simp))) ?_))
 refine (TX.out _).mono ?_
 rintro e w2 ⟨g2, hg2, rfl, k2, b2⟩
 have H2 := qh (H1.out.call b2)
 clear k2 b2 hg2 H1 TX
 have K2 := qh (H2.out.b (w1.heap.size) (140) ((jL (aP y)).toArray) (by simp))
 have c11 : w2.cell? ⟨w1.heap.size, 11, none⟩ = some (.slice none 0 0) := Dw K2.out 11 _ rfl
 go_wp2_with fail
 refine wp_loop_rounds 1 ?_
 rw [rounds_succ]
 go_wp2_with fail
 refine (SO.out _ _ _ _).mono ?_
 rintro e w3 ⟨rfl, b3⟩
 have H3 := qh (H2.out.call b3)
 clear b3 H2 K2 c11 SO
 go_wp2_with fail
 go_ret
 exact ⟨_, y, HY.out, rfl, H3.out.b (w1.heap.size) (140) ((jL (aP y)).toArray) (by simp), G1.out, H3.out.below⟩
theorem VH (a : jE) (g : Nat) (w : World) (hb : ax w g 140 (jL a).toArray) :
 Calls Tryz.prog 109 #[.pointer (some ⟨g, 0, none⟩)] w fun e w' => e = .returned (.int .u64 0) ∧ w' = w := by
 have c13 : w.cell? ⟨g, 13, none⟩ = some (.slice none 0 0) := Dw hb 13 _ rfl
 clear hb
 go_enter Tryz.func109, Tryz.ntmps109
 go_wp2_with fail
 go_ret
 exact ⟨rfl, rfl⟩
def VD (_ : Unit) : List Value := aZ.cells ++ (ak ai ++ [.int .i64 0, .int .i64 0])
theorem Tu (x : Unit) : (VD x).length = 72 := by unfold VD; rw [List.length_append, aZ.len, List.length_append, aC]; rfl
theorem Tt (x : Unit) : ∀ v ∈ VD x, v.oneCell' = true := by
 intro v hv
 unfold VD at hv
 simp only [List.mem_append, List.mem_cons, List.not_mem_nil, or_false] at hv
 rcases hv with h | h | rfl | rfl
 ·exact aZ.one v h
 ·exact fI _ v h
 ·rfl
 ·rfl
theorem U4 : cZ Tryz.prog 132 VD 72 := ⟨by kernel_rfl, Tu, Tt, Tryz.isAgg132⟩
theorem Tw (a : jE) (g : Nat) (w : World) (hb : ax w g 140 (jL a).toArray) :
 Calls Tryz.prog 65 #[.pointer (some ⟨g, 0, none⟩)] w fun e w' => e = .returned (.tuple #[.agg (VD ()).toArray, .bool false]) ∧ Below w.heap.size w w' := by
 have hg : g < w.heap.size := hb.lt
 have HB := qh (show ∀ ob, ax (w.alloc ob) g 140 (jL a).toArray from fun ob => hb.alloc ob)
 have c11 : ∀ ob, (w.alloc ob).cell? ⟨g, 11, none⟩ = some (.slice none 0 0) := fun ob => Dw (hb.alloc ob) 11 _ rfl
 have DRW := qh (fun ob => VH a g (w.alloc ob) (hb.alloc ob))
 have PIK := qh (fun V => Xt none 0 [] rfl ⟨0, by decide⟩ V)
 have hpv : IJ [] 0 = .tuple #[.int .i64 0, .bool false] := rfl
 clear hb
 go_enter Tryz.func65, Tryz.ntmps65
 go_wp2_with fail
 refine wp_loop_rounds 1 ?_
 rw [rounds_succ]
 go_wp2_with fail
 refine (DRW.out _).mono ?_
 rintro e w1 ⟨rfl, rfl⟩
 go_wp2_with fail
 refine (PIK.out _).mono ?_
 rintro e w2 ⟨rfl, b2⟩
 rw [hpv]
 have B2 := qh (((Below.refl w.heap.size w).alloc (Nat.le_refl _) _).trans (b2.mono (by simp)))
 have K2 := qh (aa b2 (ax.new w 132 _) (by simp))
 clear b2
 go_wp2_with (first
  | ((with_reducible refine bW 39 ?_); refine bu rfl 132 #[] rfl (VD ()).toArray (by kernel_rfl) ?_)
  | ((with_reducible refine ag 2 39 ?_); refine U4.aj rfl (.tmp 2) (.tmp 39) rfl rfl w.heap.size () rfl rfl 132 _ K2.out (by kernel_rfl) ?_; intro w3 o3 b3))
 exact bodyPost_ret (bn rfl _ _ w.heap.size 132 _ (0, 0) _ rfl b3 Tryz.underlying132 rfl (by rw [U4.arr]; kernel_rfl)) rfl ⟨rfl, B2.out.trans (o3.below (by simp))⟩
theorem Vh (d : CA) (z : aQ .u64) (w : World) (hd : d.c.In w w.heap.size) (hn : kE d.c.C) :
 Calls Tryz.prog 37 #[.agg d.cells.toArray, .agg (aA z).toArray, .slice none 0 0] w fun e w' => e = .returned (.tuple #[.slice none 0 0, .int .i64 0]) ∧ Below w.heap.size w w' := by
 have H0 := qh (show Holds w [(w.heap.size + 1, 50, (aA z).toArray), (w.heap.size, 45, d.cells.toArray)] ((w.alloc (.cells d.cells.toArray 45)).alloc (.cells (aA z).toArray 50)) from by
  have := ((Holds.nil w).box 45 d.cells.toArray).box 50 (aA z).toArray
  simpa only [World.size_alloc] using this)
 have BG := qh (fun V (hb : Below w.heap.size w V) => TH d z V ((hd.below hb).more hb.size) hn)
 clear hd hn
 go_enter Tryz.func37, Tryz.ntmps37
 go_wp2_with (first
  | ((with_reducible refine az 3 ?_); refine cO.af rfl (.tmp 3) rfl w.heap.size 0 rfl d (au.ah (H0.out.b (w.heap.size) (45) (d.cells.toArray) (by simp))) ?_)
  | ((with_reducible refine az 4 ?_); refine j5.af rfl (.tmp 4) rfl (w.heap.size + 1) 0 rfl z (au.ah (H0.out.b (w.heap.size + 1) (50) ((aA z).toArray) (by simp))) ?_))
 refine (BG.out _ H0.out.below).mono ?_
 rintro e w1 ⟨g, y, hy, rfl, k1, hg, b1⟩
 have H1 := qh (H0.out.call b1)
 have K1 := qh k1
 clear hy k1 b1 H0 BG
 go_wp2_with fail
 refine (Tw (aP y) g _ K1.out).mono ?_
 rintro e w2 ⟨rfl, b2⟩
 have H2 := qh (H1.out.call b2)
 have K2 := qh (aa b2 K1.out K1.out.lt)
 clear b2 H1 K1
 go_wp2_with (first
  | ((with_reducible refine ag 9 18 ?_); refine U4.aj rfl (.tmp 9) (.tmp 18) rfl rfl w2.heap.size () rfl rfl 132 _ (ax.new w2 132 _) (by kernel_rfl) ?_; intro w3 o3 b3
     have H3 := qh (H2.out.put o3 b3).drop
     have K3 := qh (o3.blk (K2.out.alloc _) (by have := K2.out.lt; simp; omega))
     clear o3 b3 H2 K2))
 refine wp_loop_rounds 1 ?_
 rw [rounds_succ]
 have R7 := qh (show ∀ W, From w3 W → W.cell? ⟨g, 7, none⟩ = some (.slice none 0 0) from fun W hC => Dw (aa hC.below K3.out K3.out.lt) 7 _ rfl)
 have R6 := qh (show ∀ W, From w3 W → W.cell? ⟨g, 6, none⟩ = some (.int .i64 0) from fun W hC => Dw (aa hC.below K3.out K3.out.lt) 6 _ rfl)
 go_wp2_with fail
 refine fE (by kernel_rfl) (by kernel_rfl) ?_
 repeat (first
  | go_big_quiet_skip
  | ((with_reducible refine bI 32 ?_); refine aN (by rfl) 68 (.tmp 32) rfl ⟨g, 7, none⟩ rfl (.slice none 0 0) Tryz.isAgg68 (R7.out) ?_; simp only [Act.put, List.setIfInBounds_toArray, List.set_cons_succ, List.set_cons_zero])
  | ((with_reducible refine bI 37 ?_); refine aN (by rfl) 2 (.tmp 37) rfl ⟨g, 6, none⟩ rfl (.int .i64 0) Tryz.isAgg2 (R6.out) ?_; simp only [Act.put, List.setIfInBounds_toArray, List.set_cons_succ, List.set_cons_zero])
  | (go_big_quiet_want; go_big_quiet_op; refine ⟨_, fun _ _ => by with_reducible rfl, ?_⟩; go_big_quiet_on)
  | go_big_quiet_step (fail))
 refine wpQuiet_nil ?_
 intro w9 hC
 have B4 := qh (H3.out.below.trans (hC.below.mono H3.out.below.size))
 clear hC
 go_wp2_with fail
 go_ret2
 exact ⟨rfl, B4.out⟩
end
section
open Go.RowKit
def pG (c : C0) (k : aS) (n : aQ .u32) : bK := ⟨c.gB, pF c.tree 32, n, [dN (sU c.h) k vS]⟩
theorem Holds.vP {w W W' : World} {L : List (Nat × TypeId × Array Value)} {v : Value} (h : Holds w L W) (g : W.grownBy W' v.ownBlock) (ho : ∀ k, v.ownBlock = some k → w.heap.size ≤ k) (hL : ∀ x ∈ L, some x.1 ≠ v.ownBlock) : Holds w L W' :=
 ⟨h.below.trans ((Below.refl _ _).grown g h.below.size ho), fun x hx => LA (h.nS x hx) g (hL x hx)⟩
theorem Gz (z : aQ .u32) (k : aS) (v : aQ .i64) : dz [dN z k v] = [] := rfl
theorem zi (t : TypeId) (ht : t = 70) (p : aS) (n : aQ .u32) (A : Option Addr) (m c : Nat) : Tryz.prog.built t [(0, .agg (ak p).toArray), (2, .int .u32 n.1), (3, .slice A m c)] = some (ak p ++ (ak ai ++ [Value.int .u32 n.1, Value.slice A m c])).toArray := by
 subst ht
 obtain ⟨l, hl⟩ := p
 iterate 32 (rcases l with _ | ⟨b, l⟩; · simp at hl)
 rcases l with _ | ⟨b, l⟩
 ·kernel_rfl
 ·simp at hl
theorem TD (d : CA) (z : aQ .u64) (k : aS) (n : aQ .u32) (w : World) (hd : d.c.In w w.heap.size) (hn : kE d.c.C) (hR : aM w) :
 Calls Tryz.prog 25 #[.agg d.cells.toArray, .agg (aA z).toArray, .agg (ak k).toArray, .int .u32 n.1, .slice none 0 0] w fun e w' => ∃ b : bF, b.B = pG d.c.C k n ∧ e = .returned (.tuple #[.agg b.cells.toArray, .int .i64 0]) ∧ uZ w.heap.size w' b ∧ Below w.heap.size w w' := by
 obtain ⟨Zb, Zz, hzb, Pp, aam⟩ := bB ((show ((Tryz.prog.info? 70).bind (·.zero)) = some (.agg bZ.cells.toArray) by kernel_rfl)) uU
 obtain ⟨Zt, hZt, hzt, Pk, aah⟩ := bB oh uo
 obtain ⟨Zr, hZr, hzr, Pm, aai⟩ := bB gY jJ
 have HS := qh (And.intro Pp (And.intro Pk Pm))
 have HZ := qh Zz
 have H0 := qh (show Holds w [(w.heap.size + 3, 70, Zb), (w.heap.size + 2, 26, (ak k).toArray), (w.heap.size + 1, 50, (aA z).toArray), (w.heap.size, 45, d.cells.toArray)] ((((w.alloc (.cells d.cells.toArray 45)).alloc (.cells (aA z).toArray 50)).alloc (.cells (ak k).toArray 26)).alloc (.cells Zb 70)) from by
  have := ((((Holds.nil w).box 45 d.cells.toArray).box 50 (aA z).toArray).box 26 (ak k).toArray).box 70 Zb
  simpa only [World.size_alloc, Nat.add_assoc] using this)
 have RO := qh (show ∀ V, Below w.heap.size w V → aM V from fun _ hb => aM.below hR hb (aM.sH hR) (aM.qL hR))
 have PK := qh (fun V (hb : Below w.heap.size w V) => Vh d z V ((hd.below hb).more hb.size) hn)
 have hw : IntKind.u32.wrap (d.c.C.h.1 + 1) = (sU d.c.C.h).1 := by rw [IntKind.wrap_u32]; rfl
 have hw2 : (d.c.C.h.1 + 1) % 4294967296 = (sU d.c.C.h).1 := rfl
 have BA := qh (fun V => Sj (sU d.c.C.h) k 0 vS V (by decide))
 clear hd hn hR Pp Pk Pm Zz hZt hZr
 go_enter Tryz.func25, Tryz.ntmps25
 go_wp2_with (first
  | ((with_reducible refine az 5 ?_); refine cO.af rfl (.tmp 5) rfl w.heap.size 0 rfl d (au.ah (H0.out.b (w.heap.size) (45) (d.cells.toArray) (by simp))) ?_)
  | ((with_reducible refine az 6 ?_); refine j5.af rfl (.tmp 6) rfl (w.heap.size + 1) 0 rfl z (au.ah (H0.out.b (w.heap.size + 1) (50) ((aA z).toArray) (by simp))) ?_))
 refine (PK.out _ H0.out.below).mono ?_
 rintro e w1 ⟨rfl, b1⟩
 have H1 := qh (H0.out.call b1)
 clear b1 H0 PK
 have c0 : w1.cell? ⟨w.heap.size, 0, none⟩ = some (.int .u32 d.c.C.h.1) := eT.c0 (au.ah (H1.out.b (w.heap.size) (45) (d.cells.toArray) (by simp)))
 go_wp2_with (first
  | ((with_reducible refine az 7 ?_); refine bL.af rfl (.tmp 7) rfl (w.heap.size + 2) 0 rfl k (au.ah (H1.out.b (w.heap.size + 2) (26) ((ak k).toArray) (by simp))) ?_))
 refine (BA.out _).mono ?_
 rintro e w2 ⟨a, rfl, ta, ia, b2⟩
 have I2 := qh (ia.mono H1.out.below.size)
 have H2 := qh (H1.out.call b2)
 have TA := qh ta
 clear b2 H1 BA c0 ta ia
 go_wp2_with (first
  | ((with_reducible refine ag 14 30 ?_); refine di.aj rfl (.tmp 14) (.tmp 30) rfl rfl w2.heap.size a rfl rfl 92 _ (ax.new w2 92 Zt) (by rw [HS.out.2.1]) ?_; intro w3 o3 b3
     have H3 := qh (show Holds w [(w2.heap.size, 92, a.cells.toArray), (w.heap.size + 3, 70, Zb), (w.heap.size + 2, 26, (ak k).toArray), (w.heap.size + 1, 50, (aA z).toArray), (w.heap.size, 45, d.cells.toArray)] w3 from H2.out.put o3 b3)
     have I3 := qh (I2.out.from (((Below.refl w2.heap.size w2).alloc (Nat.le_refl _) _).trans (o3.below (by simp))))
     clear o3 b3 H2 I2))
 obtain ⟨ga, hga⟩ : ∃ ga, w2.heap.size = ga := ⟨_, rfl⟩
 rw [hga] at H3 ⊢
 clear hga
 go_cut [15] from 31 to 39 (fun v15 wc => ∃ (g : Nat) (A6 : Option Addr) (c6 : Nat), v15 = .pointer (some ⟨g, 0, none⟩) ∧ Hid (w.heap.size + 3 < g) ∧ Hid (Holds w [(g, 70, (⟨d.c.C.gB, ai, n, [a], A6, c6⟩ : bF).cells.toArray), (w.heap.size + 3, 70, Zb), (w.heap.size + 2, 26, (ak k).toArray), (w.heap.size + 1, 50, (aA z).toArray), (w.heap.size, 45, d.cells.toArray)] wc) ∧ Hid (uZ w.heap.size wc (⟨d.c.C.gB, ai, n, [a], A6, c6⟩ : bF)))
 case first =>
  refine wp_region_held_drew (S := Holds w [(ga, 92, a.cells.toArray), (w.heap.size + 3, 70, Zb), (w.heap.size + 2, 26, (ak k).toArray), (w.heap.size + 1, 50, (aA z).toArray), (w.heap.size, 45, d.cells.toArray)]) (by kernel_rfl) (H3.out.call (Below.refl _ _).drew) ?_
  intro hS
  have HH := qh hS
  have AI := qh (I3.out.from (Below.refl _ _).drew)
  clear H3 I3
  generalize w3.drew = wd at hS HH AI ⊢
  have DD := qh (Below.refl wd.heap.size wd)
  have LT := qh (show w.heap.size + 3 < wd.heap.size ∧ ga < wd.heap.size from ⟨(HH.out.b (w.heap.size + 3) (70) Zb (by simp)).lt, (HH.out.b ga (92) (a.cells.toArray) (by simp)).lt⟩)
  refine tkp 0 (.pointer (some ⟨w.heap.size, 1, none⟩)) rfl hS ?_
  go_simp
  refine tk 1 (.agg (ak d.c.C.gB).toArray) rfl (bL.aB (by rfl) (.tmp 31) rfl w.heap.size 1 rfl d.c.C.gB (fun _ h => by have := eT.c1 (au.ah (h.b (w.heap.size) (45) (d.cells.toArray) (by simp))); simpa only [Nat.zero_add] using this)) hS ?_
  go_simp
  refine tkp 2 (.int .u32 n.1) rfl hS ?_
  go_simp
  refine tk 3 (.agg a.cells.toArray) rfl (di.aB (by rfl) (.tmp 14) rfl ga 0 rfl a (fun _ h => au.ah (h.b (ga) (92) (a.cells.toArray) (by simp)))) hS ?_
  go_simp
  refine tkp 5 (.slice none 0 0) rfl hS ?_
  go_simp
  refine rd2 4 8 rfl (fun Kq hK => ?_) rfl (fun Kq hK => ?_)
  ·refine mD.gN rfl Xa 1 _ rfl [a] rfl (by omega) (by omega) (by kernel_rfl) ?_
   have HN := qh (show Holds w ((wd.heap.size, 92, (cellsOf aY.cells [a]).toArray) :: [(ga, 92, a.cells.toArray), (w.heap.size + 3, 70, Zb), (w.heap.size + 2, 26, (ak k).toArray), (w.heap.size + 1, 50, (aA z).toArray), (w.heap.size, 45, d.cells.toArray)]) (wd.alloc (.cells (cellsOf aY.cells [a]).toArray 92)) from HH.out.box 92 (cellsOf aY.cells [a]).toArray)
   have D4 := qh (show wd.heap.size ≤ wd.heap.size from DD.out.size)
   have DN := qh (DD.out.alloc DD.out.size (.cells (cellsOf aY.cells [a]).toArray 92))
   refine hK.out _ _ (HN.out.os) (fun hS => ?_)
   clear hK Kq HH
   have HH := HN
   clear HN
   clear DD
   have DD := DN
   clear DN
   obtain ⟨x1, hV⟩ : ∃ V, wd.alloc (.cells (cellsOf aY.cells [a]).toArray 92) = V := ⟨_, rfl⟩
   rw [hV] at HH DD hS ⊢
   clear hV
   obtain ⟨g4, hg4, hd4⟩ : ∃ g, wd.heap.size = g ∧ wd.heap.size ≤ g := ⟨_, rfl, D4.out⟩
   rw [hg4] at HH ⊢
   clear hg4 D4
   have D4 := qh hd4
   clear hd4
   go_simp
   refine rd2 6 8 rfl (fun Kq hK => ?_) rfl (fun Kq hK => ?_)
   ·refine mD.step_append rfl QY 144 QZ (by omega) (.tmp 35) (.tmp 36) rfl w.heap.size _ [a] rfl (gq aY.len (HH.out.b g4 (92) (cellsOf aY.cells [a]).toArray (by simp)) (by have := D4.out; have := LT.out; omega) rfl (by decide)) 0 none 0 ([] : List aY) rfl (aK.nil (Nat.zero_le _)) (by simp) HH.out.below.size ?_
    intro v6 x2 p6 q6
    have HN := qh (show Holds w [(ga, 92, a.cells.toArray), (w.heap.size + 3, 70, Zb), (w.heap.size + 2, 26, (ak k).toArray), (w.heap.size + 1, 50, (aA z).toArray), (w.heap.size, 45, d.cells.toArray)] x2 from (HH.out.os (L' := [(ga, 92, a.cells.toArray), (w.heap.size + 3, 70, Zb), (w.heap.size + 2, 26, (ak k).toArray), (w.heap.size + 1, 50, (aA z).toArray), (w.heap.size, 45, d.cells.toArray)])).vP q6 (fun k e => by have e2 : g4 = k := Option.some.inj e; have := D4.out; have := LT.out; omega) (fun x hx e => by
     have h1 : x.1 = g4 := Option.some.inj e
     have := D4.out
     have := LT.out
     simp only [List.mem_cons, List.not_mem_nil, or_false] at hx
     rcases hx with rfl | rfl | rfl | rfl | rfl <;> simp only at h1 <;> omega))
    have DN := qh (DD.out.trans ((Below.refl wd.heap.size x1).grown q6 DD.out.size (fun k e => by have e2 : g4 = k := Option.some.inj e; have := D4.out; omega)))
    obtain ⟨A6, c6, rfl, _⟩ := aK.fO aY.len p6
    have O6 := qh (show World.ownsRow x2 w.heap.size 92 38 (.slice A6 1 c6) 1 (cellsOf aY.cells [a]) from p6)
    clear p6 q6
    refine hK.out _ _ (HN.out.os) (fun hS => ?_)
    clear hK Kq HH
    have HH := HN
    clear HN
    clear DD
    have DD := DN
    clear DN
    go_simp
    refine tk 7 (.agg (⟨d.c.C.gB, ai, n, [a], A6, c6⟩ : bF).cells.toArray) rfl (bH (by rfl) 70 #[(0, .tmp 32), (2, .tmp 33), (3, .tmp 37)] rfl (⟨d.c.C.gB, ai, n, [a], A6, c6⟩ : bF).cells.toArray ((congrArg (Tryz.prog.built 70) (show _ = [(0, Value.agg (ak d.c.C.gB).toArray), (2, Value.int .u32 n.1), (3, Value.slice A6 1 c6)] by kernel_rfl)).trans (zi _ rfl d.c.C.gB n A6 1 c6))) hS ?_
    go_simp
    refine rd 8 rfl (fun Kq hK => ?_)
    go_simp
    have HN := qh (show Holds w ((x2.heap.size, 70, Zb) :: [(ga, 92, a.cells.toArray), (w.heap.size + 3, 70, Zb), (w.heap.size + 2, 26, (ak k).toArray), (w.heap.size + 1, 50, (aA z).toArray), (w.heap.size, 45, d.cells.toArray)]) (x2.alloc (.cells Zb 70)) from HH.out.box 70 Zb)
    have D8 := qh (show wd.heap.size ≤ x2.heap.size from DD.out.size)
    have ON := qh (O6.out.alloc (.cells Zb 70))
    clear O6
    have O6 := ON
    clear ON
    have DN := qh (DD.out.alloc DD.out.size (.cells Zb 70))
    refine hK.out _ _ (HN.out.os) (fun hS => ?_)
    clear hK Kq HH
    have HH := HN
    clear HN
    clear DD
    have DD := DN
    clear DN
    obtain ⟨x3, hV⟩ : ∃ V, x2.alloc (.cells Zb 70) = V := ⟨_, rfl⟩
    rw [hV] at HH DD hS O6 ⊢
    clear hV
    obtain ⟨g8, UG, pO⟩ : ∃ g, x2.heap.size = g ∧ wd.heap.size ≤ g := ⟨_, rfl, D8.out⟩
    rw [UG] at HH ⊢
    clear UG D8
    have D8 := qh pO
    clear pO
    go_simp
    refine rd 9 rfl (fun Kq hK => ?_)
    refine fe.aH rfl (.tmp 15) (.tmp 38) rfl rfl g8 (⟨d.c.C.gB, ai, n, [a], A6, c6⟩ : bF) rfl rfl 70 _ (HH.out.b g8 (70) Zb (by simp)) (by rw [HS.out.1]) ?_
    intro w9 o9 b9
    have H9 := qh (show Holds w [(g8, 70, (⟨d.c.C.gB, ai, n, [a], A6, c6⟩ : bF).cells.toArray), (ga, 92, a.cells.toArray), (w.heap.size + 3, 70, Zb), (w.heap.size + 2, 26, (ak k).toArray), (w.heap.size + 1, 50, (aA z).toArray), (w.heap.size, 45, d.cells.toArray)] w9 from (HH.out.os (L' := (g8, 70, Zb) :: [(ga, 92, a.cells.toArray), (w.heap.size + 3, 70, Zb), (w.heap.size + 2, 26, (ak k).toArray), (w.heap.size + 1, 50, (aA z).toArray), (w.heap.size, 45, d.cells.toArray)])).turn o9 b9 (by have := D8.out; have := LT.out; omega) (fun x hx => by
     have := D8.out
     have := LT.out
     simp only [List.mem_cons, List.not_mem_nil, or_false] at hx
     rcases hx with rfl | rfl | rfl | rfl | rfl <;> simp only <;> omega))
    have O9 := qh (aI O6.out o9 (HH.out.b g8 (70) Zb (by simp)) (by decide))
    have D9 := qh (DD.out.trans (o9.below (by simpa using D8.out)))
    have X9 := qh (show uZ w.heap.size w9 (⟨d.c.C.gB, ai, n, [a], A6, c6⟩ : bF) from ⟨O9.out, fun t ht => by
     have ht' : t ∈ [a] := ht
     rw [List.mem_singleton] at ht'
     subst ht'
     exact (AI.out.from DD.out).only o9 (HH.out.b g8 (70) Zb (by simp)) (by decide) (by decide) (by decide)⟩)
    refine hK.out _ _ (H9.out.of (fun x hx => List.mem_cons_of_mem _ hx)) (fun hS => ?_)
    clear hK Kq
    refine wpAnyH_done (by kernel_rfl) ?_ _
    go_wp2_with fail
    go_meet
    exact ⟨g8, A6, c6, rfl, qh (by have := D8.out; have := LT.out; omega), qh (H9.out.os), X9⟩
   ·go_simp
    have HN := qh (show Holds w ((x1.heap.size, 70, Zb) :: [(g4, 92, (cellsOf aY.cells [a]).toArray), (ga, 92, a.cells.toArray), (w.heap.size + 3, 70, Zb), (w.heap.size + 2, 26, (ak k).toArray), (w.heap.size + 1, 50, (aA z).toArray), (w.heap.size, 45, d.cells.toArray)]) (x1.alloc (.cells Zb 70)) from HH.out.box 70 Zb)
    have D8 := qh (show wd.heap.size ≤ x1.heap.size from DD.out.size)
    have M8 := qh (show x1.heap.size ≠ g4 from Nat.ne_of_gt (HH.out.b g4 (92) (cellsOf aY.cells [a]).toArray (by simp)).lt)
    have DN := qh (DD.out.alloc DD.out.size (.cells Zb 70))
    refine hK.out _ _ (HN.out.os) (fun hS => ?_)
    clear hK Kq HH
    have HH := HN
    clear HN
    clear DD
    have DD := DN
    clear DN
    obtain ⟨x2, hV⟩ : ∃ V, x1.alloc (.cells Zb 70) = V := ⟨_, rfl⟩
    rw [hV] at HH DD hS ⊢
    clear hV
    obtain ⟨g8, UG, pO, WL⟩ : ∃ g, x1.heap.size = g ∧ wd.heap.size ≤ g ∧ g ≠ g4 := ⟨_, rfl, D8.out, M8.out⟩
    rw [UG] at HH ⊢
    clear UG D8 M8
    have D8 := qh pO
    have M8 := qh WL
    clear pO WL
    go_simp
    refine rd 6 rfl (fun Kq hK => ?_)
    refine mD.step_append rfl QY 144 QZ (by omega) (.tmp 35) (.tmp 36) rfl w.heap.size _ [a] rfl (gq aY.len (HH.out.b g4 (92) (cellsOf aY.cells [a]).toArray (by simp)) (by have := D4.out; have := LT.out; omega) rfl (by decide)) 0 none 0 ([] : List aY) rfl (aK.nil (Nat.zero_le _)) (by simp) HH.out.below.size ?_
    intro v6 x3 p6 q6
    have HN := qh (show Holds w [(g8, 70, Zb), (ga, 92, a.cells.toArray), (w.heap.size + 3, 70, Zb), (w.heap.size + 2, 26, (ak k).toArray), (w.heap.size + 1, 50, (aA z).toArray), (w.heap.size, 45, d.cells.toArray)] x3 from (HH.out.os (L' := [(g8, 70, Zb), (ga, 92, a.cells.toArray), (w.heap.size + 3, 70, Zb), (w.heap.size + 2, 26, (ak k).toArray), (w.heap.size + 1, 50, (aA z).toArray), (w.heap.size, 45, d.cells.toArray)])).vP q6 (fun k e => by have e2 : g4 = k := Option.some.inj e; have := D4.out; have := LT.out; omega) (fun x hx e => by
     have h1 : x.1 = g4 := Option.some.inj e
     have := D4.out
     have := LT.out
     have := M8.out
     simp only [List.mem_cons, List.not_mem_nil, or_false] at hx
     rcases hx with rfl | rfl | rfl | rfl | rfl | rfl <;> simp only at h1 <;> omega))
    have DN := qh (DD.out.trans ((Below.refl wd.heap.size x2).grown q6 DD.out.size (fun k e => by have e2 : g4 = k := Option.some.inj e; have := D4.out; omega)))
    obtain ⟨A6, c6, rfl, _⟩ := aK.fO aY.len p6
    have O6 := qh (show World.ownsRow x3 w.heap.size 92 38 (.slice A6 1 c6) 1 (cellsOf aY.cells [a]) from p6)
    clear p6 q6
    refine hK.out _ _ (HN.out.os) (fun hS => ?_)
    clear hK Kq HH
    have HH := HN
    clear HN
    clear DD
    have DD := DN
    clear DN
    go_simp
    refine tk 7 (.agg (⟨d.c.C.gB, ai, n, [a], A6, c6⟩ : bF).cells.toArray) rfl (bH (by rfl) 70 #[(0, .tmp 32), (2, .tmp 33), (3, .tmp 37)] rfl (⟨d.c.C.gB, ai, n, [a], A6, c6⟩ : bF).cells.toArray ((congrArg (Tryz.prog.built 70) (show _ = [(0, Value.agg (ak d.c.C.gB).toArray), (2, Value.int .u32 n.1), (3, Value.slice A6 1 c6)] by kernel_rfl)).trans (zi _ rfl d.c.C.gB n A6 1 c6))) hS ?_
    go_simp
    refine rd 9 rfl (fun Kq hK => ?_)
    refine fe.aH rfl (.tmp 15) (.tmp 38) rfl rfl g8 (⟨d.c.C.gB, ai, n, [a], A6, c6⟩ : bF) rfl rfl 70 _ (HH.out.b g8 (70) Zb (by simp)) (by rw [HS.out.1]) ?_
    intro w9 o9 b9
    have H9 := qh (show Holds w [(g8, 70, (⟨d.c.C.gB, ai, n, [a], A6, c6⟩ : bF).cells.toArray), (ga, 92, a.cells.toArray), (w.heap.size + 3, 70, Zb), (w.heap.size + 2, 26, (ak k).toArray), (w.heap.size + 1, 50, (aA z).toArray), (w.heap.size, 45, d.cells.toArray)] w9 from (HH.out.os (L' := (g8, 70, Zb) :: [(ga, 92, a.cells.toArray), (w.heap.size + 3, 70, Zb), (w.heap.size + 2, 26, (ak k).toArray), (w.heap.size + 1, 50, (aA z).toArray), (w.heap.size, 45, d.cells.toArray)])).turn o9 b9 (by have := D8.out; have := LT.out; omega) (fun x hx => by
     have := D8.out
     have := LT.out
     simp only [List.mem_cons, List.not_mem_nil, or_false] at hx
     rcases hx with rfl | rfl | rfl | rfl | rfl <;> simp only <;> omega))
    have O9 := qh (aI O6.out o9 (HH.out.b g8 (70) Zb (by simp)) (by decide))
    have D9 := qh (DD.out.trans (o9.below (by simpa using D8.out)))
    have X9 := qh (show uZ w.heap.size w9 (⟨d.c.C.gB, ai, n, [a], A6, c6⟩ : bF) from ⟨O9.out, fun t ht => by
     have ht' : t ∈ [a] := ht
     rw [List.mem_singleton] at ht'
     subst ht'
     exact (AI.out.from DD.out).only o9 (HH.out.b g8 (70) Zb (by simp)) (by decide) (by decide) (by decide)⟩)
    refine hK.out _ _ (H9.out.of (fun x hx => List.mem_cons_of_mem _ hx)) (fun hS => ?_)
    clear hK Kq
    refine wpAnyH_done (by kernel_rfl) ?_ _
    go_wp2_with fail
    go_meet
    exact ⟨g8, A6, c6, rfl, qh (by have := D8.out; have := LT.out; omega), qh (H9.out.os), X9⟩
  ·go_simp
   have HN := qh (show Holds w ((wd.heap.size, 70, Zb) :: [(ga, 92, a.cells.toArray), (w.heap.size + 3, 70, Zb), (w.heap.size + 2, 26, (ak k).toArray), (w.heap.size + 1, 50, (aA z).toArray), (w.heap.size, 45, d.cells.toArray)]) (wd.alloc (.cells Zb 70)) from HH.out.box 70 Zb)
   have D8 := qh (show wd.heap.size ≤ wd.heap.size from DD.out.size)
   have DN := qh (DD.out.alloc DD.out.size (.cells Zb 70))
   refine hK.out _ _ (HN.out.os) (fun hS => ?_)
   clear hK Kq HH
   have HH := HN
   clear HN
   clear DD
   have DD := DN
   clear DN
   obtain ⟨x1, hV⟩ : ∃ V, wd.alloc (.cells Zb 70) = V := ⟨_, rfl⟩
   rw [hV] at HH DD hS ⊢
   clear hV
   obtain ⟨g8, UG, pO⟩ : ∃ g, wd.heap.size = g ∧ wd.heap.size ≤ g := ⟨_, rfl, D8.out⟩
   rw [UG] at HH ⊢
   clear UG D8
   have D8 := qh pO
   clear pO
   go_simp
   refine rd 4 rfl (fun Kq hK => ?_)
   refine mD.gN rfl Xa 1 _ rfl [a] rfl (by omega) (by omega) (by kernel_rfl) ?_
   have HN := qh (show Holds w ((x1.heap.size, 92, (cellsOf aY.cells [a]).toArray) :: [(g8, 70, Zb), (ga, 92, a.cells.toArray), (w.heap.size + 3, 70, Zb), (w.heap.size + 2, 26, (ak k).toArray), (w.heap.size + 1, 50, (aA z).toArray), (w.heap.size, 45, d.cells.toArray)]) (x1.alloc (.cells (cellsOf aY.cells [a]).toArray 92)) from HH.out.box 92 (cellsOf aY.cells [a]).toArray)
   have D4 := qh (show wd.heap.size ≤ x1.heap.size from DD.out.size)
   have M8 := qh (show g8 ≠ x1.heap.size from Nat.ne_of_lt (HH.out.b g8 (70) Zb (by simp)).lt)
   have DN := qh (DD.out.alloc DD.out.size (.cells (cellsOf aY.cells [a]).toArray 92))
   refine hK.out _ _ (HN.out.os) (fun hS => ?_)
   clear hK Kq HH
   have HH := HN
   clear HN
   clear DD
   have DD := DN
   clear DN
   obtain ⟨x2, hV⟩ : ∃ V, x1.alloc (.cells (cellsOf aY.cells [a]).toArray 92) = V := ⟨_, rfl⟩
   rw [hV] at HH DD hS ⊢
   clear hV
   obtain ⟨g4, hg4, hd4, WL⟩ : ∃ g, x1.heap.size = g ∧ wd.heap.size ≤ g ∧ g8 ≠ g := ⟨_, rfl, D4.out, M8.out⟩
   rw [hg4] at HH ⊢
   clear hg4 D4 M8
   have D4 := qh hd4
   have M8 := qh WL
   clear hd4 WL
   go_simp
   refine rd 6 rfl (fun Kq hK => ?_)
   refine mD.step_append rfl QY 144 QZ (by omega) (.tmp 35) (.tmp 36) rfl w.heap.size _ [a] rfl (gq aY.len (HH.out.b g4 (92) (cellsOf aY.cells [a]).toArray (by simp)) (by have := D4.out; have := LT.out; omega) rfl (by decide)) 0 none 0 ([] : List aY) rfl (aK.nil (Nat.zero_le _)) (by simp) HH.out.below.size ?_
   intro v6 x3 p6 q6
   have HN := qh (show Holds w [(g8, 70, Zb), (ga, 92, a.cells.toArray), (w.heap.size + 3, 70, Zb), (w.heap.size + 2, 26, (ak k).toArray), (w.heap.size + 1, 50, (aA z).toArray), (w.heap.size, 45, d.cells.toArray)] x3 from (HH.out.os (L' := [(g8, 70, Zb), (ga, 92, a.cells.toArray), (w.heap.size + 3, 70, Zb), (w.heap.size + 2, 26, (ak k).toArray), (w.heap.size + 1, 50, (aA z).toArray), (w.heap.size, 45, d.cells.toArray)])).vP q6 (fun k e => by have e2 : g4 = k := Option.some.inj e; have := D4.out; have := LT.out; omega) (fun x hx e => by
    have h1 : x.1 = g4 := Option.some.inj e
    have := D4.out
    have := LT.out
    have := M8.out
    simp only [List.mem_cons, List.not_mem_nil, or_false] at hx
    rcases hx with rfl | rfl | rfl | rfl | rfl | rfl <;> simp only at h1 <;> omega))
   have DN := qh (DD.out.trans ((Below.refl wd.heap.size x2).grown q6 DD.out.size (fun k e => by have e2 : g4 = k := Option.some.inj e; have := D4.out; omega)))
   obtain ⟨A6, c6, rfl, _⟩ := aK.fO aY.len p6
   have O6 := qh (show World.ownsRow x3 w.heap.size 92 38 (.slice A6 1 c6) 1 (cellsOf aY.cells [a]) from p6)
   clear p6 q6
   refine hK.out _ _ (HN.out.os) (fun hS => ?_)
   clear hK Kq HH
   have HH := HN
   clear HN
   clear DD
   have DD := DN
   clear DN
   go_simp
   refine tk 7 (.agg (⟨d.c.C.gB, ai, n, [a], A6, c6⟩ : bF).cells.toArray) rfl (bH (by rfl) 70 #[(0, .tmp 32), (2, .tmp 33), (3, .tmp 37)] rfl (⟨d.c.C.gB, ai, n, [a], A6, c6⟩ : bF).cells.toArray ((congrArg (Tryz.prog.built 70) (show _ = [(0, Value.agg (ak d.c.C.gB).toArray), (2, Value.int .u32 n.1), (3, Value.slice A6 1 c6)] by kernel_rfl)).trans (zi _ rfl d.c.C.gB n A6 1 c6))) hS ?_
   go_simp
   refine rd 9 rfl (fun Kq hK => ?_)
   refine fe.aH rfl (.tmp 15) (.tmp 38) rfl rfl g8 (⟨d.c.C.gB, ai, n, [a], A6, c6⟩ : bF) rfl rfl 70 _ (HH.out.b g8 (70) Zb (by simp)) (by rw [HS.out.1]) ?_
   intro w9 o9 b9
   have H9 := qh (show Holds w [(g8, 70, (⟨d.c.C.gB, ai, n, [a], A6, c6⟩ : bF).cells.toArray), (ga, 92, a.cells.toArray), (w.heap.size + 3, 70, Zb), (w.heap.size + 2, 26, (ak k).toArray), (w.heap.size + 1, 50, (aA z).toArray), (w.heap.size, 45, d.cells.toArray)] w9 from (HH.out.os (L' := (g8, 70, Zb) :: [(ga, 92, a.cells.toArray), (w.heap.size + 3, 70, Zb), (w.heap.size + 2, 26, (ak k).toArray), (w.heap.size + 1, 50, (aA z).toArray), (w.heap.size, 45, d.cells.toArray)])).turn o9 b9 (by have := D8.out; have := LT.out; omega) (fun x hx => by
    have := D8.out
    have := LT.out
    simp only [List.mem_cons, List.not_mem_nil, or_false] at hx
    rcases hx with rfl | rfl | rfl | rfl | rfl <;> simp only <;> omega))
   have O9 := qh (aI O6.out o9 (HH.out.b g8 (70) Zb (by simp)) (by decide))
   have D9 := qh (DD.out.trans (o9.below (by simpa using D8.out)))
   have X9 := qh (show uZ w.heap.size w9 (⟨d.c.C.gB, ai, n, [a], A6, c6⟩ : bF) from ⟨O9.out, fun t ht => by
    have ht' : t ∈ [a] := ht
    rw [List.mem_singleton] at ht'
    subst ht'
    exact (AI.out.from DD.out).only o9 (HH.out.b g8 (70) Zb (by simp)) (by decide) (by decide) (by decide)⟩)
   refine hK.out _ _ (H9.out.of (fun x hx => List.mem_cons_of_mem _ hx)) (fun hS => ?_)
   clear hK Kq
   refine wpAnyH_done (by kernel_rfl) ?_ _
   go_wp2_with fail
   go_meet
   exact ⟨g8, A6, c6, rfl, qh (by have := D8.out; have := LT.out; omega), qh (H9.out.os), X9⟩
 case rest =>
  obtain ⟨g, A6, c6, rfl, GL, H4, X4⟩ := hcut
  clear H3 I3
  have TXS := qh (show ((⟨d.c.C.gB, ai, n, [a], A6, c6⟩ : bF).B).bG = [dN (sU d.c.C.h) k vS] from by show [a.T] = _; rw [TA.out])
  have NB := qh (show ∀ V : World, (⟨d.c.C.gB, ai, n, [a], A6, c6⟩ : bF).In V V.heap.size → Calls Tryz.prog 39 #[.agg (⟨d.c.C.gB, ai, n, [a], A6, c6⟩ : bF).cells.toArray] V fun e w' => (∃ A c, e = .returned (.slice A 0 c) ∧ aK ak 32 w' w'.heap.size A c []) ∧ Below V.heap.size V w' from fun V h => by
   have hv : ku (⟨d.c.C.gB, ai, n, [a], A6, c6⟩ : bF).B = false := by
    unfold ku
    rw [TXS.out]
    rfl
   have h3 := Az (⟨d.c.C.gB, ai, n, [a], A6, c6⟩ : bF) V h hv
   rw [TXS.out, Gz] at h3
   exact h3.mono fun e w' ⟨⟨A, c, q1, q2⟩, q3⟩ => ⟨⟨A, c, q1, dm aC q2⟩, q3⟩)
  have AL := qh (show ∀ (V : World) (A : Option Addr) (c : Nat), aK ak 32 V V.heap.size A c [] → aM V → Calls Tryz.prog 5 #[.agg d.c.C.tree.cells.toArray, .slice A 0 c] V fun e w' => e = .returned (.tuple #[.agg d.c.C.tree.cells.toArray, .int .i64 0]) ∧ Below V.heap.size V w' from fun V A c h r => Gu d.c.C.tree A c [] V (by decide) h r)
  go_wp2_with fail
  go_cut [16, 17] from 39 to 47 (fun v16 v17 wc => ∃ g2 : Nat, v16 = .pointer (some ⟨g2, 0, none⟩) ∧ v17 = .int .i64 0 ∧ Hid (Holds w [(g2, 29, d.c.C.tree.cells.toArray), (g, 70, (⟨d.c.C.gB, ai, n, [a], A6, c6⟩ : bF).cells.toArray), (w.heap.size + 3, 70, Zb), (w.heap.size + 2, 26, (ak k).toArray), (w.heap.size + 1, 50, (aA z).toArray), (w.heap.size, 45, d.cells.toArray)] wc) ∧ Hid (uZ w.heap.size wc (⟨d.c.C.gB, ai, n, [a], A6, c6⟩ : bF)))
  case first =>
   refine wp_region_held_drew (S := Holds w [(g, 70, (⟨d.c.C.gB, ai, n, [a], A6, c6⟩ : bF).cells.toArray), (w.heap.size + 3, 70, Zb), (w.heap.size + 2, 26, (ak k).toArray), (w.heap.size + 1, 50, (aA z).toArray), (w.heap.size, 45, d.cells.toArray)]) (by kernel_rfl) (H4.out.call (Below.refl _ _).drew) ?_
   intro hS
   have HH := qh hS
   have XI := qh (X4.out.from (Below.refl _ _).drew)
   clear H4 X4
   generalize World.drew _ = wd at hS HH XI ⊢
   have DD := qh (Below.refl wd.heap.size wd)
   have LT := qh (show w.heap.size + 3 < wd.heap.size ∧ g < wd.heap.size from ⟨(HH.out.b (w.heap.size + 3) (70) Zb (by simp)).lt, (HH.out.b g (70) ((⟨d.c.C.gB, ai, n, [a], A6, c6⟩ : bF).cells.toArray) (by simp)).lt⟩)
   refine tkp 0 (.pointer (some ⟨w.heap.size, 35, none⟩)) rfl hS ?_
   go_simp
   refine tk 1 (.agg d.c.C.tree.cells.toArray) rfl (gz.aB (by rfl) (.tmp 40) rfl w.heap.size 35 rfl d.c.C.tree (fun _ h => by have := eT.c4 (au.ah (h.b (w.heap.size) (45) (d.cells.toArray) (by simp))); simpa only [Nat.zero_add] using this)) hS ?_
   go_simp
   refine tk 2 (.agg (⟨d.c.C.gB, ai, n, [a], A6, c6⟩ : bF).cells.toArray) rfl (fe.aB (by rfl) (.tmp 15) rfl g 0 rfl (⟨d.c.C.gB, ai, n, [a], A6, c6⟩ : bF) (fun _ h => au.ah (h.b (g) (70) ((⟨d.c.C.gB, ai, n, [a], A6, c6⟩ : bF).cells.toArray) (by simp)))) hS ?_
   go_simp
   refine rd2 3 8 rfl (fun Kq hK => ?_) rfl (fun Kq hK => ?_)
   ·go_simp
    with_reducible refine (NB.out _ (XI.out.from DD.out).AJ).mono ?_
    rintro e x1 ⟨⟨An, cn, rfl, rn⟩, bq⟩
    have RN := qh rn
    have HN := qh (HH.out.call bq)
    have DN := qh (DD.out.trans (bq.mono DD.out.size))
    clear rn bq
    refine hK.out _ _ (HN.out.os) (fun hS => ?_)
    clear hK Kq HH
    have HH := HN
    clear HN
    clear DD
    have DD := DN
    clear DN
    go_simp
    refine rd2 4 8 rfl (fun Kq hK => ?_) rfl (fun Kq hK => ?_)
    ·go_simp
     with_reducible refine (AL.out _ An cn RN.out (RO.out _ HH.out.below)).mono ?_
     rintro e x2 ⟨rfl, bq⟩
     have HN := qh (HH.out.call bq)
     have DN := qh (DD.out.trans (bq.mono DD.out.size))
     clear bq RN
     refine hK.out _ _ (HN.out.os) (fun hS => ?_)
     clear hK Kq HH
     have HH := HN
     clear HN
     clear DD
     have DD := DN
     clear DN
     go_simp
     refine tkp 5 (.tuple #[.agg d.c.C.tree.cells.toArray, .int .i64 0]) rfl hS ?_
     go_simp
     refine tkp 6 (.agg d.c.C.tree.cells.toArray) rfl hS ?_
     go_simp
     refine tkp 7 (.int .i64 0) rfl hS ?_
     go_simp
     refine rd 8 rfl (fun Kq hK => ?_)
     go_simp
     have HN := qh (show Holds w ((x2.heap.size, 29, Zr) :: [(g, 70, (⟨d.c.C.gB, ai, n, [a], A6, c6⟩ : bF).cells.toArray), (w.heap.size + 3, 70, Zb), (w.heap.size + 2, 26, (ak k).toArray), (w.heap.size + 1, 50, (aA z).toArray), (w.heap.size, 45, d.cells.toArray)]) (x2.alloc (.cells Zr 29)) from HH.out.box 29 Zr)
     have D8 := qh (show wd.heap.size ≤ x2.heap.size from DD.out.size)
     have DN := qh (DD.out.alloc DD.out.size (.cells Zr 29))
     refine hK.out _ _ (HN.out.os) (fun hS => ?_)
     clear hK Kq HH
     have HH := HN
     clear HN
     clear DD
     have DD := DN
     clear DN
     obtain ⟨x3, hV⟩ : ∃ V, x2.alloc (.cells Zr 29) = V := ⟨_, rfl⟩
     rw [hV] at HH DD hS ⊢
     clear hV
     obtain ⟨g2, hg2, pO⟩ : ∃ g, x2.heap.size = g ∧ wd.heap.size ≤ g := ⟨_, rfl, D8.out⟩
     rw [hg2] at HH ⊢
     clear hg2 D8
     have D8 := qh pO
     clear pO
     go_simp
     refine rd 9 rfl (fun Kq hK => ?_)
     refine gz.aH rfl (.tmp 16) (.tmp 45) rfl rfl g2 d.c.C.tree rfl rfl 29 _ (HH.out.b g2 (29) Zr (by simp)) (by rw [HS.out.2.2]) ?_
     intro w9 o9 b9
     have H9 := qh (show Holds w [(g2, 29, d.c.C.tree.cells.toArray), (g, 70, (⟨d.c.C.gB, ai, n, [a], A6, c6⟩ : bF).cells.toArray), (w.heap.size + 3, 70, Zb), (w.heap.size + 2, 26, (ak k).toArray), (w.heap.size + 1, 50, (aA z).toArray), (w.heap.size, 45, d.cells.toArray)] w9 from (HH.out.os (L' := (g2, 29, Zr) :: [(g, 70, (⟨d.c.C.gB, ai, n, [a], A6, c6⟩ : bF).cells.toArray), (w.heap.size + 3, 70, Zb), (w.heap.size + 2, 26, (ak k).toArray), (w.heap.size + 1, 50, (aA z).toArray), (w.heap.size, 45, d.cells.toArray)])).turn o9 b9 (by have := D8.out; have := LT.out; omega) (fun x hx => by
      have := D8.out
      have := LT.out
      simp only [List.mem_cons, List.not_mem_nil, or_false] at hx
      rcases hx with rfl | rfl | rfl | rfl | rfl <;> simp only <;> omega))
     have D9 := qh (DD.out.trans (o9.below (by simpa using D8.out)))
     refine hK.out _ _ (H9.out.of (fun x hx => List.mem_cons_of_mem _ hx)) (fun hS => ?_)
     clear hK Kq
     go_simp
     refine tkp 10 (.int .i64 0) rfl hS ?_
     go_simp
     refine wpAnyH_done (by kernel_rfl) ?_ _
     go_wp2_with fail
     go_meet
     exact ⟨g2, rfl, rfl, H9, qh (XI.out.from D9.out)⟩
    ·go_simp
     have HN := qh (show Holds w ((x1.heap.size, 29, Zr) :: [(g, 70, (⟨d.c.C.gB, ai, n, [a], A6, c6⟩ : bF).cells.toArray), (w.heap.size + 3, 70, Zb), (w.heap.size + 2, 26, (ak k).toArray), (w.heap.size + 1, 50, (aA z).toArray), (w.heap.size, 45, d.cells.toArray)]) (x1.alloc (.cells Zr 29)) from HH.out.box 29 Zr)
     have D8 := qh (show wd.heap.size ≤ x1.heap.size from DD.out.size)
     have DN := qh (DD.out.alloc DD.out.size (.cells Zr 29))
     have RB := qh (show aK ak 32 (x1.alloc (.cells Zr 29)) (x1.alloc (.cells Zr 29)).heap.size An cn [] from (RN.out.below ((Below.refl _ _).alloc (Nat.le_refl _) _)).more (by rw [World.size_alloc]; omega))
     clear RN
     have RN := RB
     clear RB
     refine hK.out _ _ (HN.out.os) (fun hS => ?_)
     clear hK Kq HH
     have HH := HN
     clear HN
     clear DD
     have DD := DN
     clear DN
     obtain ⟨x2, hV⟩ : ∃ V, x1.alloc (.cells Zr 29) = V := ⟨_, rfl⟩
     rw [hV] at HH DD hS RN ⊢
     clear hV
     obtain ⟨g2, hg2, pO⟩ : ∃ g, x1.heap.size = g ∧ wd.heap.size ≤ g := ⟨_, rfl, D8.out⟩
     rw [hg2] at HH ⊢
     clear hg2 D8
     have D8 := qh pO
     clear pO
     go_simp
     refine rd 4 rfl (fun Kq hK => ?_)
     go_simp
     with_reducible refine (AL.out _ An cn RN.out (RO.out _ HH.out.below)).mono ?_
     rintro e x3 ⟨rfl, bq⟩
     have HN := qh (HH.out.call bq)
     have DN := qh (DD.out.trans (bq.mono DD.out.size))
     clear bq RN
     refine hK.out _ _ (HN.out.os) (fun hS => ?_)
     clear hK Kq HH
     have HH := HN
     clear HN
     clear DD
     have DD := DN
     clear DN
     go_simp
     refine tkp 5 (.tuple #[.agg d.c.C.tree.cells.toArray, .int .i64 0]) rfl hS ?_
     go_simp
     refine tkp 6 (.agg d.c.C.tree.cells.toArray) rfl hS ?_
     go_simp
     refine tkp 7 (.int .i64 0) rfl hS ?_
     go_simp
     refine rd 9 rfl (fun Kq hK => ?_)
     refine gz.aH rfl (.tmp 16) (.tmp 45) rfl rfl g2 d.c.C.tree rfl rfl 29 _ (HH.out.b g2 (29) Zr (by simp)) (by rw [HS.out.2.2]) ?_
     intro w9 o9 b9
     have H9 := qh (show Holds w [(g2, 29, d.c.C.tree.cells.toArray), (g, 70, (⟨d.c.C.gB, ai, n, [a], A6, c6⟩ : bF).cells.toArray), (w.heap.size + 3, 70, Zb), (w.heap.size + 2, 26, (ak k).toArray), (w.heap.size + 1, 50, (aA z).toArray), (w.heap.size, 45, d.cells.toArray)] w9 from (HH.out.os (L' := (g2, 29, Zr) :: [(g, 70, (⟨d.c.C.gB, ai, n, [a], A6, c6⟩ : bF).cells.toArray), (w.heap.size + 3, 70, Zb), (w.heap.size + 2, 26, (ak k).toArray), (w.heap.size + 1, 50, (aA z).toArray), (w.heap.size, 45, d.cells.toArray)])).turn o9 b9 (by have := D8.out; have := LT.out; omega) (fun x hx => by
      have := D8.out
      have := LT.out
      simp only [List.mem_cons, List.not_mem_nil, or_false] at hx
      rcases hx with rfl | rfl | rfl | rfl | rfl <;> simp only <;> omega))
     have D9 := qh (DD.out.trans (o9.below (by simpa using D8.out)))
     refine hK.out _ _ (H9.out.of (fun x hx => List.mem_cons_of_mem _ hx)) (fun hS => ?_)
     clear hK Kq
     go_simp
     refine tkp 10 (.int .i64 0) rfl hS ?_
     go_simp
     refine wpAnyH_done (by kernel_rfl) ?_ _
     go_wp2_with fail
     go_meet
     exact ⟨g2, rfl, rfl, H9, qh (XI.out.from D9.out)⟩
   ·go_simp
    have HN := qh (show Holds w ((wd.heap.size, 29, Zr) :: [(g, 70, (⟨d.c.C.gB, ai, n, [a], A6, c6⟩ : bF).cells.toArray), (w.heap.size + 3, 70, Zb), (w.heap.size + 2, 26, (ak k).toArray), (w.heap.size + 1, 50, (aA z).toArray), (w.heap.size, 45, d.cells.toArray)]) (wd.alloc (.cells Zr 29)) from HH.out.box 29 Zr)
    have D8 := qh (show wd.heap.size ≤ wd.heap.size from DD.out.size)
    have DN := qh (DD.out.alloc DD.out.size (.cells Zr 29))
    refine hK.out _ _ (HN.out.os) (fun hS => ?_)
    clear hK Kq HH
    have HH := HN
    clear HN
    clear DD
    have DD := DN
    clear DN
    obtain ⟨x1, hV⟩ : ∃ V, wd.alloc (.cells Zr 29) = V := ⟨_, rfl⟩
    rw [hV] at HH DD hS ⊢
    clear hV
    obtain ⟨g2, hg2, pO⟩ : ∃ g, wd.heap.size = g ∧ wd.heap.size ≤ g := ⟨_, rfl, D8.out⟩
    rw [hg2] at HH ⊢
    clear hg2 D8
    have D8 := qh pO
    clear pO
    go_simp
    refine rd 3 rfl (fun Kq hK => ?_)
    go_simp
    with_reducible refine (NB.out _ (XI.out.from DD.out).AJ).mono ?_
    rintro e x2 ⟨⟨An, cn, rfl, rn⟩, bq⟩
    have RN := qh rn
    have HN := qh (HH.out.call bq)
    have DN := qh (DD.out.trans (bq.mono DD.out.size))
    clear rn bq
    refine hK.out _ _ (HN.out.os) (fun hS => ?_)
    clear hK Kq HH
    have HH := HN
    clear HN
    clear DD
    have DD := DN
    clear DN
    go_simp
    refine rd 4 rfl (fun Kq hK => ?_)
    go_simp
    with_reducible refine (AL.out _ An cn RN.out (RO.out _ HH.out.below)).mono ?_
    rintro e x3 ⟨rfl, bq⟩
    have HN := qh (HH.out.call bq)
    have DN := qh (DD.out.trans (bq.mono DD.out.size))
    clear bq RN
    refine hK.out _ _ (HN.out.os) (fun hS => ?_)
    clear hK Kq HH
    have HH := HN
    clear HN
    clear DD
    have DD := DN
    clear DN
    go_simp
    refine tkp 5 (.tuple #[.agg d.c.C.tree.cells.toArray, .int .i64 0]) rfl hS ?_
    go_simp
    refine tkp 6 (.agg d.c.C.tree.cells.toArray) rfl hS ?_
    go_simp
    refine tkp 7 (.int .i64 0) rfl hS ?_
    go_simp
    refine rd 9 rfl (fun Kq hK => ?_)
    refine gz.aH rfl (.tmp 16) (.tmp 45) rfl rfl g2 d.c.C.tree rfl rfl 29 _ (HH.out.b g2 (29) Zr (by simp)) (by rw [HS.out.2.2]) ?_
    intro w9 o9 b9
    have H9 := qh (show Holds w [(g2, 29, d.c.C.tree.cells.toArray), (g, 70, (⟨d.c.C.gB, ai, n, [a], A6, c6⟩ : bF).cells.toArray), (w.heap.size + 3, 70, Zb), (w.heap.size + 2, 26, (ak k).toArray), (w.heap.size + 1, 50, (aA z).toArray), (w.heap.size, 45, d.cells.toArray)] w9 from (HH.out.os (L' := (g2, 29, Zr) :: [(g, 70, (⟨d.c.C.gB, ai, n, [a], A6, c6⟩ : bF).cells.toArray), (w.heap.size + 3, 70, Zb), (w.heap.size + 2, 26, (ak k).toArray), (w.heap.size + 1, 50, (aA z).toArray), (w.heap.size, 45, d.cells.toArray)])).turn o9 b9 (by have := D8.out; have := LT.out; omega) (fun x hx => by
     have := D8.out
     have := LT.out
     simp only [List.mem_cons, List.not_mem_nil, or_false] at hx
     rcases hx with rfl | rfl | rfl | rfl | rfl <;> simp only <;> omega))
    have D9 := qh (DD.out.trans (o9.below (by simpa using D8.out)))
    refine hK.out _ _ (H9.out.of (fun x hx => List.mem_cons_of_mem _ hx)) (fun hS => ?_)
    clear hK Kq
    go_simp
    refine tkp 10 (.int .i64 0) rfl hS ?_
    go_simp
    refine wpAnyH_done (by kernel_rfl) ?_ _
    go_wp2_with fail
    go_meet
    exact ⟨g2, rfl, rfl, H9, qh (XI.out.from D9.out)⟩
  case rest =>
   obtain ⟨g2, rfl, rfl, H5, X5⟩ := hcut
   clear H4 X4 NB AL
   have RT := qh (fun (V : World) (r : aM V) => uw d.c.C.tree V r)
   go_wp2_with (first
    | ((with_reducible refine az 16 ?_); refine gz.af rfl (.tmp 16) rfl g2 0 rfl d.c.C.tree (au.ah (H5.out.b (g2) (29) (d.c.C.tree.cells.toArray) (by simp))) ?_))
   refine (RT.out _ (RO.out _ H5.out.below)).mono ?_
   rintro e w6 ⟨rfl, b6⟩
   have H6 := qh ((H5.out.call b6).of (L' := [(g, 70, (⟨d.c.C.gB, ai, n, [a], A6, c6⟩ : bF).cells.toArray), (w.heap.size + 3, 70, Zb), (w.heap.size + 2, 26, (ak k).toArray), (w.heap.size + 1, 50, (aA z).toArray), (w.heap.size, 45, d.cells.toArray)]) (fun x hx => List.mem_cons_of_mem _ hx))
   have X6 := qh (X5.out.from b6)
   clear b6 H5 X5 RT
   go_wp2_with (first
    | ((with_reducible refine ag 53 52 ?_); refine bL.dO rfl (.tmp 53) (.tmp 52) rfl rfl g 32 (pF d.c.C.tree 32) rfl rfl 70 _ (H6.out.b (g) (70) ((⟨d.c.C.gB, ai, n, [a], A6, c6⟩ : bF).cells.toArray) (by simp)) (by rw [bF.len]; omega) ?_; intro w7 o7 b7; rw [bF.xS] at b7
       have H7 := qh (show Holds w [(g, 70, (⟨d.c.C.gB, pF d.c.C.tree 32, n, [a], A6, c6⟩ : bF).cells.toArray), (w.heap.size + 3, 70, Zb), (w.heap.size + 2, 26, (ak k).toArray), (w.heap.size + 1, 50, (aA z).toArray), (w.heap.size, 45, d.cells.toArray)] w7 from H6.out.turn o7 b7 (by have := GL.out; omega) (fun x hx => by
        have := GL.out
        simp only [List.mem_cons, List.not_mem_nil, or_false] at hx
        rcases hx with rfl | rfl | rfl | rfl <;> simp only <;> omega))
       have q7 := X6.out.only o7 (H6.out.b (g) (70) ((⟨d.c.C.gB, ai, n, [a], A6, c6⟩ : bF).cells.toArray) (by simp)) (by decide) (by decide) (by decide) (by decide)
       have X7 := qh (show uZ w.heap.size w7 (⟨d.c.C.gB, pF d.c.C.tree 32, n, [a], A6, c6⟩ : bF) from ⟨q7.row, q7.each⟩)
       clear q7
       clear o7 b7 H6 X6)
    | ((with_reducible refine az 15 ?_); refine fe.af rfl (.tmp 15) rfl g 0 rfl (⟨d.c.C.gB, pF d.c.C.tree 32, n, [a], A6, c6⟩ : bF) (au.ah (H7.out.b (g) (70) ((⟨d.c.C.gB, pF d.c.C.tree 32, n, [a], A6, c6⟩ : bF).cells.toArray) (by simp))) ?_)
    | ((with_reducible refine ag 10 54 ?_); refine fe.aj rfl (.tmp 10) (.tmp 54) rfl rfl (w.heap.size + 3) (⟨d.c.C.gB, pF d.c.C.tree 32, n, [a], A6, c6⟩ : bF) rfl rfl 70 _ (H7.out.b (w.heap.size + 3) (70) (Zb) (by simp)) (by rw [HS.out.1]) ?_; intro w8 o8 b8))
   refine bodyPost_ret (bn rfl _ _ (w.heap.size + 3) 70 _ (0, 0) _ rfl b8 Tryz.underlying70 rfl (by rw [fe.arr]; kernel_rfl)) rfl ⟨(⟨d.c.C.gB, pF d.c.C.tree 32, n, [a], A6, c6⟩ : bF), ?_, rfl, X7.out.only o8 (H7.out.b (w.heap.size + 3) (70) (Zb) (by simp)) (by decide) (by decide) (by decide) (by decide), H7.out.below.trans (o8.below (by simp))⟩
   show (⟨d.c.C.gB, (pF d.c.C.tree 32), n, [a.T]⟩ : bK) = _
   rw [TA.out]
   rfl
end
end Go.Proofs.YtnpmpeoojncjhaaGreatDoor
