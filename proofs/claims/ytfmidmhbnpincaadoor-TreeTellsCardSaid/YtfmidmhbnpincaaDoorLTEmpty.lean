/- TreeEmpty's walk. Written by genL7c.py. -/
import Derived.Test.YtfmidmhbnpincaaDoorTreeT
namespace Go.Proofs.YtfmidmhbnpincaaDoor
open Go.RowKit
section
variable {P : Program} {ops : Array Oper} {C : World → Prop} {Q : Act → Prop} {a : Act} {rest : List Oper}
theorem wpQuiet_built {o : Oper} (hw : Region.wanted o (yielded ops a.tmps) = true) (t : TypeId) (parts : Array (Nat × Operand)) (ho : o.op = .build t parts) (cells : Array Value)
    (hb : P.built t (parts.map fun (i, x) => (i, a.eval x)).toList = some cells) (h : wpQuiet P ops C Q rest (a.put o.dst (.agg cells))) : wpQuiet P ops C Q (o :: rest) a :=
  wpQuiet_step fun K hK => by
    rw [if_pos hw]
    refine ⟨.agg cells, fun w hC => ?_, hK _ h⟩
    unfold Oper.quietAt execOp
    simp only [ho, Sem.run_bind, run_build w t _ cells hb, Result.andThen_ok]
    exact ⟨rfl, rfl⟩
theorem at_qbuild {ty ty0 : TypeId} {parts : Array (Nat × Operand)} {pos : String} {after : Array Edge} {gd : Option (Nat × Bool)} (i : Nat)
    (h : wpQuiet P ops C Q ({ dst := some i, op := .build ty parts, type := ty0, pos := pos, after := after, guard := gd } :: rest) a) :
    wpQuiet P ops C Q ({ dst := some i, op := .build ty parts, type := ty0, pos := pos, after := after, guard := gd } :: rest) a := h
end
theorem mkE33_at {w : World} {g k : Nat} (hk : k ≤ 32) (h : Blk w g 40 (mkE 32 (by omega)).cells.toArray) : RowC w g (k * 32) (encK (empK k)) := by
  have h1 := (mkE 32 (by omega)).at (RowC.of_blk h) k (by omega)
  have h2 : (mkE 32 (by omega)).l[k]'(by rw [(mkE 32 (by omega)).h]; omega) = empK k := by
    apply Option.some.inj
    rw [← List.getElem?_eq_getElem]
    show (List.map empK (List.range (32 + 1)) ++ List.replicate (32 - 32) zeroKey)[k]? = _
    rw [List.getElem?_append_left (by simp; omega), List.getElem?_map, List.getElem?_range (by omega)]
    rfl
  rwa [h2] at h1
theorem root_zT : rtK zT 32 = empK 32 := by
  have h : zT.V = ofV pairK zeroKey [] := by
    show TreeV.mk 0 (List.replicate 32 zeroKey) = TreeV.mk 0 ((List.range 32).map (partOf pairK zeroKey []))
    congr 1
  show rootN pairK zeroKey zT.V 32 = _
  rw [h]
  exact (rootV_of pairK zeroKey [] (by decide)).trans (atR_nil pairK zeroKey 32)
set_option maxRecDepth 100000 in
set_option maxHeartbeats 4000000 in
theorem tempty_walk (HE : EmpTOk) (HA : AppTOk) (HT : RotTOk) (i : Int) (w : World) (hi : (Lit.int .u8 i).wf = true) (hR : Roots w) :
    Calls Tryd.prog 6 #[.int .u8 i] w fun e w' => e = .returned (.bool true) ∧ Below w.heap.size w w' := by
  have SH := Lib.hid (fun W h => tshown_any HA W h)
  unfold EmpTOk at HE
  unfold RotTOk at HT
  have hcu : 0 ≤ i ∧ i ≤ 255 := by simpa [Lit.wf, IntKind.min, IntKind.max, IntKind.signed, IntKind.bits] using hi
  obtain ⟨m, rfl⟩ : ∃ m : Nat, i = m := ⟨i.toNat, by omega⟩
  obtain ⟨k, hk⟩ : ∃ k, m % 32 = k := ⟨_, rfl⟩
  have hmod : Int.tmod (m : Int) 32 = (k : Int) := by rw [Int.tmod_eq_emod_of_nonneg (by omega)]; omega
  have hcv : IntKind.i64.wrap (m : Int) = (m : Int) := by rw [IntKind.wrap_i64]; omega
  have hcw : wrap64 (m : Int) = (m : Int) := by unfold wrap64; omega
  have HK := Lib.hid (show k < 32 by omega)
  have RR := Lib.hid (Roots.on hR)
  have R0 := Lib.hid hR
  obtain ⟨Z, hZ, hz, hzs, hzn⟩ := zero_of zeroE_ok zE_size
  have HS := Lib.hid hzs
  clear hi hk hcu hR hZ hzs
  go_enter Tryd.func6, Tryd.ntmps6
  go_wp2_with fail
  refine (HE w R0.out).mono ?_
  rintro e w2 ⟨rfl, b2⟩
  have H2 := Lib.hid ((Holds.nil w).call b2)
  clear b2
  go_wp2_with ((with_reducible refine at_store 4 8 ?_); refine tyE.wpList_store rfl (.tmp 4) (.tmp 8) rfl rfl w2.heap.size (mkE 32 (by omega)) rfl rfl 40 Z (Blk.new w2 40 Z) (by rw [HS.out]) ?_; intro w3 o3 b3
               have H3 := Lib.hid (H2.out.put o3 b3)
               clear o3 b3)
  have EB := Lib.hid (fun (W : World) (hC : From w3 W) => show Blk W w2.heap.size 40 (mkE 32 (by omega)).cells.toArray from (H3.out.call hC.below).at (List.mem_cons_self ..))
  have RW := Lib.hid (fun (W : World) (hC : From w3 W) => RR.out W (H3.out.call hC.below).below)
  have PW := Lib.hid (show ∀ W, Calls Tryd.prog 22 #[.agg (encK (empK k)).toArray, .agg (encK (empK k)).toArray] W fun e w' => e = .returned (.agg (encK (empK (k + 1))).toArray) ∧ Below W.heap.size W w' from fun W => rPair_r (empK k) (empK k) W)
  have TW := Lib.hid (show ∀ W, Roots W → Calls Tryd.prog 15 #[.agg zT.cells.toArray] W fun e w' => e = .returned (.agg (encK (empK 32)).toArray) ∧ Below W.heap.size W w' from fun W h => by
    have := HT zT W h
    rwa [root_zT] at this)
  have hge : (0 : Int) ≤ (k : Int) := by omega
  have hi1 : (k : Int) < 33 := by have := HK.out; omega
  have hi2 : (k : Int) + 1 < 33 := by have := HK.out; omega
  have hi3 : (0 : Int) ≤ (k : Int) + 1 := by omega
  have hwr : IntKind.i64.wrap ((k : Int) + 1) = (k : Int) + 1 := by have := HK.out; rw [IntKind.wrap_i64]; omega
  have htn : ((k : Int) + 1).toNat = k + 1 := by omega
  have E0 := Lib.hid (fun (W : World) (hC : From w3 W) => show RowC W w2.heap.size 0 (encK zeroKey) from by
    exact mkE33_at (k := 0) (by omega) (EB.out W hC))
  have Ek := Lib.hid (fun (W : World) (hC : From w3 W) => mkE33_at (k := k) (by have := HK.out; omega) (EB.out W hC))
  have Ek1 := Lib.hid (fun (W : World) (hC : From w3 W) => mkE33_at (k := k + 1) (by have := HK.out; omega) (EB.out W hC))
  have E32 := Lib.hid (fun (W : World) (hC : From w3 W) => show RowC W w2.heap.size 1024 (encK (empK 32)) from mkE33_at (k := 32) (by omega) (EB.out W hC))
  obtain ⟨ka, hka⟩ : ∃ ka, empK k = ka := ⟨_, rfl⟩
  obtain ⟨kb, hkb⟩ : ∃ kb, empK (k + 1) = kb := ⟨_, rfl⟩
  obtain ⟨kc, hkc⟩ : ∃ kc, empK 32 = kc := ⟨_, rfl⟩
  rw [hka, hkb] at PW
  rw [hka] at Ek
  rw [hkb] at Ek1
  rw [hkc] at E32 TW
  clear hz hzn hka hkb hkc hmod hcv hcw
  refine wp_region_from (by kernel_rfl) (by kernel_rfl) ?_
  repeat (first
      | go_big_quiet_skip
      | ((with_reducible refine at_qload 11 ?_); refine tyKc.wpQuiet_load (by rfl) (.tmp 11) rfl w2.heap.size ((k + 1) * 32) rfl (kb) (fun W hC => Ek1.out W hC) ?_; simp only [Act.put, List.setIfInBounds_toArray, List.set_cons_succ, List.set_cons_zero])
      | ((with_reducible refine at_qload 14 ?_); refine tyKc.wpQuiet_load (by rfl) (.tmp 14) rfl w2.heap.size (k * 32) rfl (ka) (fun W hC => Ek.out W hC) ?_; simp only [Act.put, List.setIfInBounds_toArray, List.set_cons_succ, List.set_cons_zero])
      | ((with_reducible refine at_qload 17 ?_); refine tyKc.wpQuiet_load (by rfl) (.tmp 17) rfl w2.heap.size (k * 32) rfl (ka) (fun W hC => Ek.out W hC) ?_; simp only [Act.put, List.setIfInBounds_toArray, List.set_cons_succ, List.set_cons_zero])
      | ((with_reducible refine at_qload 22 ?_); refine tyKc.wpQuiet_load (by rfl) (.tmp 22) rfl w2.heap.size (0) rfl (zeroKey) (fun W hC => E0.out W hC) ?_; simp only [Act.put, List.setIfInBounds_toArray, List.set_cons_succ, List.set_cons_zero])
      | ((with_reducible refine at_qload 30 ?_); refine tyKc.wpQuiet_load (by rfl) (.tmp 30) rfl w2.heap.size (1024) rfl (kc) (fun W hC => E32.out W hC) ?_; simp only [Act.put, List.setIfInBounds_toArray, List.set_cons_succ, List.set_cons_zero])
      | ((with_reducible refine at_qeql 12 19 ?_); refine wpQuiet_eql_row (by rfl) 24 24 (.tmp 12) (.tmp 19) rfl (encK kb).toArray (encK kb).toArray rfl (rfl) (by kernel_rfl) true (fun V => (eqKy_run _ _ V).trans (by simp)) ?_; simp only [Act.put, List.setIfInBounds_toArray, List.set_cons_succ, List.set_cons_zero])
      | ((with_reducible refine at_qeql 23 24 ?_); refine wpQuiet_eql_row (by rfl) 24 24 (.tmp 23) (.tmp 24) rfl (encK zeroKey).toArray (encK zeroKey).toArray rfl (rfl) (by kernel_rfl) true (fun V => (eqKy_run _ _ V).trans (by simp)) ?_; simp only [Act.put, List.setIfInBounds_toArray, List.set_cons_succ, List.set_cons_zero])
      | ((with_reducible refine at_qeql 29 31 ?_); refine wpQuiet_eql_row (by rfl) 24 24 (.tmp 29) (.tmp 31) rfl (encK kc).toArray (encK kc).toArray rfl (rfl) (by kernel_rfl) true (fun V => (eqKy_run _ _ V).trans (by simp)) ?_; simp only [Act.put, List.setIfInBounds_toArray, List.set_cons_succ, List.set_cons_zero])
      | ((with_reducible refine at_qbuild 28 ?_); refine wpQuiet_built (by rfl) 27 #[] rfl zT.cells.toArray (by kernel_rfl) ?_; simp only [Act.put, List.setIfInBounds_toArray, List.set_cons_succ, List.set_cons_zero])
      | ((with_reducible refine at_qbuild 24 ?_); refine wpQuiet_built (by rfl) 24 #[] rfl (encK zeroKey).toArray (by kernel_rfl) ?_; simp only [Act.put, List.setIfInBounds_toArray, List.set_cons_succ, List.set_cons_zero])
      | (go_big_quiet_want; go_big_quiet_op; refine ⟨_, fun _ _ => by with_reducible rfl, ?_⟩; go_big_quiet_on)
      | go_big_quiet_step ((intro hC; first
          | (go_at_call 22; with_reducible exact (PW.out _).mono fun _ _ h => ⟨h.1, hC.call h.2⟩)
          | (go_at_call 15; with_reducible exact (TW.out _ (RW.out _ hC)).mono fun _ _ h => ⟨h.1, hC.call h.2⟩)
          | (go_at_call 10; with_reducible exact (SH.out _ (RW.out _ hC)).mono fun _ _ h => ⟨h.1, hC.call h.2⟩)
          | fail)))
  refine wpQuiet_nil ?_
  intro wz hC
  have HZ9 := Lib.hid (H3.out.call hC.below)
  clear hC
  go_wp2_with fail
  go_ret
  exact ⟨rfl, HZ9.out.below⟩
end Go.Proofs.YtfmidmhbnpincaaDoor
