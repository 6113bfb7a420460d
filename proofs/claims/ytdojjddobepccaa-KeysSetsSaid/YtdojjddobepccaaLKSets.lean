/- KeysSets: the statement's walk (made by genSets.py). -/
import Derived.Test.YtdojjddobepccaaLKTwice
import Derived.Test.YtdojjddobepccaaKeyM
import Derived.Test.YtdojjddobepccaaKeyZ
import Derived.Test.YtdojjddobepccaaBoolsArg
namespace Go.Proofs.Ytdojjddobepccaa
open Go.RowKit Go.Sort
set_option maxHeartbeats 8000000 in
set_option maxRecDepth 20000 in
theorem ksets_small (A : Option Addr) (c : Nat) (l : List K32) (A' : Option Addr) (c' : Nat) (tk : List Bool) (hl : l.length ≤ 200) (w : World) (h : RowIn encK 32 w w.heap.size A c l) (h' : RowIn encB 1 w w.heap.size A' c' tk) :
    Calls Try.prog 4 #[.slice A l.length c, .slice A' tk.length c'] w fun e w' => e = .returned (.bool true) ∧ Below w.heap.size w w' := by
  have HOR := Lib.hid (fun W (hW : Below w.heap.size w W) => h.below (w' := W) hW)
  have HOT := Lib.hid (fun W (hW : Below w.heap.size w W) => h'.below (w' := W) hW)
  clear h h'
  obtain ⟨n, hn⟩ : ∃ n, l.length = n := ⟨_, rfl⟩
  obtain ⟨nt, hnt⟩ : ∃ n, tk.length = n := ⟨_, rfl⟩
  rw [hn] at hl ⊢
  rw [hnt]
  have HN := Lib.hid hn
  have HNT := Lib.hid hnt
  clear hn hnt
  have d0 : decide ((200 : Int) < (n : Int)) = false := decide_eq_false (by omega)
  have hmm := @run_makeMap Try.prog
  go_enter Try.func4, Try.ntmps4
  go_wp2_with (go_at_call 10; refine (shown_any _).mono ?_; rintro e w1 ⟨rfl, b1⟩; have B1 := Lib.hid b1; clear b1)
  have M2 : MapB ((w1.alloc (.cells #[] 23)).alloc (.map #[] 0)) (w1.heap.size + 1) [] := by
    have := MapB.new (w1.alloc (.cells #[] 23))
    simpa using this
  have B2 := Lib.hid ((B1.out.alloc B1.out.size (.cells #[] 23)).alloc (by have := B1.out.size; simp; omega) (.map #[] 0))
  have HMB : Hid (w.heap.size ≤ w1.heap.size + 1) := Lib.hid (by have := B1.out.size; omega)
  have HM2 := Lib.hid M2
  clear M2 B1 hmm
  generalize (w1.alloc (.cells #[] 23)).alloc (.map #[] 0) = w2 at HM2 B2 ⊢
  obtain ⟨mb, hmb⟩ : ∃ q, w1.heap.size + 1 = q := ⟨_, rfl⟩
  rw [hmb] at HM2 HMB ⊢
  clear hmb
  go_loopw [5, 7] (fun so si wr => ∃ (j m : Nat) (A1 : Option Addr) (c1 : Nat), si = .int .i64 j ∧ j ≤ n ∧ so = .slice A1 m c1 ∧ Hid (∃ s : List K32, m = s.length ∧ m ≤ j ∧ IsSet s ∧ (∀ x ∈ s, x ∈ l.take j) ∧ RowIn encK 32 wr wr.heap.size A1 c1 s ∧ MapB wr mb s) ∧ Hid (Below w.heap.size w wr)) (fun _ i _ => n - (intOf i).toNat)
  case atStart => exact ⟨0, 0, _, _, rfl, by omega, rfl, Lib.hid ⟨[], rfl, Nat.le_refl _, List.Pairwise.nil, by simp, RowIn.nil (Nat.zero_le _), HM2.out⟩, B2⟩
  case round =>
    clear HM2 B2
    obtain ⟨j, m, A1, c1, rfl, hj, rfl, HS, HW⟩ := hrel
    obtain ⟨s, HM, HMJ, HSS, HSL, HSR, HSM⟩ : ∃ s : List K32, Hid (m = s.length) ∧ Hid (m ≤ j) ∧ Hid (IsSet s) ∧ Hid (∀ x ∈ s, x ∈ l.take j) ∧ Hid (RowIn encK 32 wr wr.heap.size A1 c1 s) ∧ Hid (MapB wr mb s) := by
      obtain ⟨s, h1, h2, h3, h4, h5, h6⟩ := HS.out
      exact ⟨s, Lib.hid h1, Lib.hid h2, Lib.hid h3, Lib.hid h4, Lib.hid h5, Lib.hid h6⟩
    clear HS
    by_cases hlt : j < n
    · have hjl : j < l.length := by rw [HN.out]; exact hlt
      have HSN := Lib.hid (take_snoc l j hjl)
      obtain ⟨g, o, rfl, hg, hc⟩ := (HOR.out wr HW.out).cells (by intro e; subst e; simp at hjl)
      have HX := Lib.hid (hc.at encK_len hjl)
      clear hc
      obtain ⟨x, hx⟩ : ∃ x, l[j]'hjl = x := ⟨_, rfl⟩
      rw [hx] at HX HSN
      clear hx
      have d1 : (0 : Int) ≤ (j : Int) := by omega
      have d2 : (j : Int) < (n : Int) := by omega
      obtain ⟨r, hr⟩ : ∃ r, decide (x ∈ s) = r := ⟨_, rfl⟩
      have HRR := Lib.hid hr
      clear hr
      by_cases htk : tk.getD j false = true
      · have hjt : j < nt := by
          rcases Nat.lt_or_ge j nt with h | h
          · exact h
          · rw [List.getD_eq_getElem?_getD, List.getElem?_eq_none (by rw [HNT.out]; exact h)] at htk
            cases htk
        have hjtl : j < tk.length := by rw [HNT.out]; exact hjt
        have htv : tk[j]'hjtl = true := by rw [List.getD_eq_getElem?_getD, List.getElem?_eq_getElem hjtl] at htk; exact htk
        obtain ⟨gt, ot, rfl, hgt, hct⟩ := (HOT.out w (Below.refl _ _)).at encB_len hjtl
        rw [htv] at hct
        have HCT := Lib.hid (fun W (hW : Below w.heap.size w W) => show W.cell? ⟨gt, ot + j, none⟩ = some (.bool true) from by have := (hct.below hW hgt) 0 _ rfl; simpa using this)
        clear hct htv htk
        have e1 : (j : Int) < (nt : Int) := by omega
        have HLJ : Hid ((s.erase x).length ≤ j + 1) := Lib.hid (by have h1 := HM.out; have h2 := HMJ.out; have h3 := (List.erase_sublist (a := x) (l := s)).length_le; omega)
        have HLE : Hid ((s.erase x).length ≤ 1000000) := Lib.hid (by have := HLJ.out; omega)
        have HIS : Hid (IsSet (s.erase x)) := Lib.hid (HSS.out.erase x)
        have HSX : Hid (∀ y ∈ s.erase x, y ∈ l.take (j + 1)) := Lib.hid (fun y hy => by
          rw [HSN.out]
          exact List.mem_append_left _ (HSL.out y (List.mem_of_mem_erase hy)))
        have HUP : Hid (∀ y, y ≠ x → (y ∈ s.erase x ↔ y ∈ s)) := Lib.hid (fun y hy => List.mem_erase_of_ne hy)
        obtain ⟨md, hmd⟩ : ∃ q, (s.erase x).length = q := ⟨_, rfl⟩
        have HCA := Lib.hid (fun W (hR : RowIn encK 32 W W.heap.size A1 c1 s) => remove_in A1 c1 s x W.heap.size (by rw [← HM.out]; have := HMJ.out; omega) W (Nat.le_refl _) hR)
        rw [← HM.out, hmd, HRR.out] at HCA
        have HMD := Lib.hid hmd
        clear hmd
        have HDE : Hid (decide (x ∈ s.erase x) = false) := Lib.hid (decide_eq_false fun hm => (HSS.out.nodup.mem_erase_iff.1 hm).1 rfl)
        have HHA := Lib.hid (fun A9 c9 W (hR : RowIn encK 32 W W.heap.size A9 c9 (s.erase x)) => has_any A9 c9 (s.erase x) x W.heap.size HLE.out W (Nat.le_refl _) hR)
        rw [HMD.out, HDE.out] at HHA
        go_wp2_with (first
          | ((with_reducible refine at_loadg 34 ?_); refine tyK.wpList_load (by rfl) (.tmp 34) rfl g _ rfl x ((HX.out).cast (by omega)) ?_; simp only [encK_bytes])
          | ((with_reducible refine at_store 8 35 ?_); refine wpList_store_arr rfl 23 (.tmp 8) (.tmp 35) rfl rfl wr.heap.size (bytesA x.1) rfl rfl 23 _ (Blk.new wr 23 (bytesA (List.replicate 32 0))) (szK x) (by rw [bytesA_size, bytesA_size, x.2]; simp) (bytesA_one _) ?_; intro w8 o8 b8; have BB8 : Below wr.heap.size wr w8 := ((Below.refl _ _).alloc (Nat.le_refl _) _).trans (o8.below (by simp)); have B8 := Lib.hid (HW.out.trans (BB8.mono HW.out.size)); have K8 := Lib.hid b8; have M8 := Lib.hid (HSM.out.below BB8 HSM.out.lt); have R8 := Lib.hid ((HSR.out.below BB8).more BB8.size); clear o8 b8 BB8; have hcell := HCT.out w8 B8.out)
          | ((with_reducible refine at_loadg 8 ?_); refine wpList_load_rowg (by rfl) 23 (.tmp 8) rfl wr.heap.size rfl 23 (bytesA x.1) _ K9.out Try.underlying23 rfl (szK x) ?_)
          | ((with_reducible refine at_loadg 8 ?_); refine wpList_load_rowg (by rfl) 23 (.tmp 8) rfl wr.heap.size rfl 23 (bytesA x.1) _ K8.out Try.underlying23 rfl (szK x) ?_)
          | (go_at_call 13; refine (HCA.out w8 R8.out).mono ?_; rintro e w9 ⟨A9, c9, rfl, r9, b9⟩; have B9 := Lib.hid (B8.out.trans (b9.mono B8.out.size)); have K9 := Lib.hid (below_blk b9 K8.out K8.out.lt); have M9 := Lib.hid (M8.out.below b9 M8.out.lt); have R9 := Lib.hid r9; clear r9 b9)
          | ((with_reducible refine at_look 53 54 ?_); refine wpList_lookB (by rfl) (.tmp 53) (.tmp 54) rfl M9.out Try.underlying35 Try.underlying23 Try.underlying5 (by kernel_rfl) (fun _ => by kernel_rfl) rfl x rfl r HRR.out ?_)
          | ((with_reducible refine at_upd 58 59 ?_); refine wpList_updB rfl (.tmp 58) (.tmp 59) (.const (.bool false)) rfl M9.out Try.underlying35 Try.underlying23 Try.underlying5 (by kernel_rfl) rfl x rfl false rfl (s.erase x) HDE.out HUP.out ?_; intro w10 o10 m10; have B10 := Lib.hid (B9.out.trans (o10.below (by simp; exact HMB.out))); have K10 := Lib.hid (o10.blk K9.out (by simpa using M9.out.blk_ne K9.out)); have R10 := Lib.hid ((R9.out.onlyMap M9.out o10).more (Nat.le_of_eq o10.size.symm)); have M10 := Lib.hid m10; clear o10 m10; simp only [Act.put, List.setIfInBounds_toArray, List.set_cons_succ, List.set_cons_zero]))
        refine wp_region_from (by kernel_rfl) (by kernel_rfl) ?_
        repeat (first
          | go_big_quiet_skip
          | ((with_reducible refine at_qload 8 ?_); refine wpQuiet_load_row (by rfl) 23 (.tmp 8) rfl wr.heap.size rfl 23 (bytesA x.1) _ (fun _ hC => below_blk hC.below K10.out K10.out.lt) Try.underlying23 rfl (szK x) ?_; simp only [Act.put, List.setIfInBounds_toArray, List.set_cons_succ, List.set_cons_zero])
          | ((with_reducible refine at_qlook 77 78 ?_); refine wpQuiet_lookB (by rfl) (.tmp 77) (.tmp 78) rfl (fun _ hC => M10.out.below hC.below M10.out.lt) Try.underlying35 Try.underlying23 Try.underlying5 (by kernel_rfl) (fun _ => by kernel_rfl) rfl x rfl false HDE.out ?_; simp only [Act.put, List.setIfInBounds_toArray, List.set_cons_succ, List.set_cons_zero])
          | (go_big_quiet_want; go_big_quiet_op; refine ⟨_, fun _ _ => by with_reducible rfl, ?_⟩; go_big_quiet_on)
          | go_big_quiet_step ((intro hC; go_at_call 22; with_reducible exact (HHA.out A9 c9 _ ((R10.out.below hC.below).more hC.below.size)).mono fun _ _ h => ⟨h.1, hC.call h.2⟩)))
        refine wpQuiet_nil ?_
        intro w11 hC
        have B11 := Lib.hid (B10.out.trans (hC.below.mono B10.out.size))
        have R11 := Lib.hid ((R10.out.below hC.below).more hC.below.size)
        have M11 := Lib.hid (M10.out.below hC.below M10.out.lt)
        clear hC
        go_wp2_with fail
        go_roundw
        case rel => exact ⟨j + 1, md, A9, c9, by go_num, by omega, rfl, Lib.hid ⟨s.erase x, HMD.out.symm, by rw [← HMD.out]; exact HLJ.out, HIS.out, HSX.out, R11.out, M11.out⟩, B11⟩
        case measure => simp [intOf]; omega
      · by_cases hjt : j < nt
        · have hjtl : j < tk.length := by rw [HNT.out]; exact hjt
          have htv : tk[j]'hjtl = false := by rw [List.getD_eq_getElem?_getD, List.getElem?_eq_getElem hjtl] at htk; simpa using htk
          obtain ⟨gt, ot, rfl, hgt, hct⟩ := (HOT.out w (Below.refl _ _)).at encB_len hjtl
          rw [htv] at hct
          have HCT := Lib.hid (fun W (hW : Below w.heap.size w W) => show W.cell? ⟨gt, ot + j, none⟩ = some (.bool false) from by have := (hct.below hW hgt) 0 _ rfl; simpa using this)
          clear hct htv htk
          have e1 : (j : Int) < (nt : Int) := by omega
          have HLJ : Hid ((insK x s).length ≤ j + 1) := Lib.hid (by have h1 := HM.out; have h2 := HMJ.out; have h3 := insK_len x s; omega)
          have HLE : Hid ((insK x s).length ≤ 1000000) := Lib.hid (by have := HLJ.out; omega)
          have HIS : Hid (IsSet (insK x s)) := Lib.hid (insK_set HSS.out)
          have HSX : Hid (∀ y ∈ insK x s, y ∈ l.take (j + 1)) := Lib.hid (fun y hy => by
            rw [HSN.out]
            rcases insK_mem.1 hy with e | e
            · rw [e]; simp
            · exact List.mem_append_left _ (HSL.out y e))
          have HUP : Hid (∀ y, y ≠ x → (y ∈ insK x s ↔ y ∈ s)) := Lib.hid (fun y hy => ⟨fun q => (insK_mem.1 q).resolve_left hy, fun q => insK_mem.2 (Or.inr q)⟩)
          obtain ⟨md, hmd⟩ : ∃ q, (insK x s).length = q := ⟨_, rfl⟩
          have HCA := Lib.hid (fun W (hR : RowIn encK 32 W W.heap.size A1 c1 s) => insert_in A1 c1 s x W.heap.size (by rw [← HM.out]; have := HMJ.out; omega) W (Nat.le_refl _) hR)
          rw [← HM.out, hmd, HRR.out] at HCA
          have HMD := Lib.hid hmd
          clear hmd
          have HDE : Hid (decide (x ∈ insK x s) = true) := Lib.hid (decide_eq_true (insK_mem.2 (Or.inl rfl)))
          have HHA := Lib.hid (fun A9 c9 W (hR : RowIn encK 32 W W.heap.size A9 c9 (insK x s)) => has_any A9 c9 (insK x s) x W.heap.size HLE.out W (Nat.le_refl _) hR)
          rw [HMD.out, HDE.out] at HHA
          go_wp2_with (first
            | ((with_reducible refine at_loadg 34 ?_); refine tyK.wpList_load (by rfl) (.tmp 34) rfl g _ rfl x ((HX.out).cast (by omega)) ?_; simp only [encK_bytes])
            | ((with_reducible refine at_store 8 35 ?_); refine wpList_store_arr rfl 23 (.tmp 8) (.tmp 35) rfl rfl wr.heap.size (bytesA x.1) rfl rfl 23 _ (Blk.new wr 23 (bytesA (List.replicate 32 0))) (szK x) (by rw [bytesA_size, bytesA_size, x.2]; simp) (bytesA_one _) ?_; intro w8 o8 b8; have BB8 : Below wr.heap.size wr w8 := ((Below.refl _ _).alloc (Nat.le_refl _) _).trans (o8.below (by simp)); have B8 := Lib.hid (HW.out.trans (BB8.mono HW.out.size)); have K8 := Lib.hid b8; have M8 := Lib.hid (HSM.out.below BB8 HSM.out.lt); have R8 := Lib.hid ((HSR.out.below BB8).more BB8.size); clear o8 b8 BB8; have hcell := HCT.out w8 B8.out)
            | ((with_reducible refine at_loadg 8 ?_); refine wpList_load_rowg (by rfl) 23 (.tmp 8) rfl wr.heap.size rfl 23 (bytesA x.1) _ K9.out Try.underlying23 rfl (szK x) ?_)
            | ((with_reducible refine at_loadg 8 ?_); refine wpList_load_rowg (by rfl) 23 (.tmp 8) rfl wr.heap.size rfl 23 (bytesA x.1) _ K8.out Try.underlying23 rfl (szK x) ?_)
            | (go_at_call 11; refine (HCA.out w8 R8.out).mono ?_; rintro e w9 ⟨A9, c9, rfl, r9, b9⟩; have B9 := Lib.hid (B8.out.trans (b9.mono B8.out.size)); have K9 := Lib.hid (below_blk b9 K8.out K8.out.lt); have M9 := Lib.hid (M8.out.below b9 M8.out.lt); have R9 := Lib.hid r9; clear r9 b9)
            | ((with_reducible refine at_look 67 68 ?_); refine wpList_lookB (by rfl) (.tmp 67) (.tmp 68) rfl M9.out Try.underlying35 Try.underlying23 Try.underlying5 (by kernel_rfl) (fun _ => by kernel_rfl) rfl x rfl r HRR.out ?_)
            | ((with_reducible refine at_upd 72 73 ?_); refine wpList_updB rfl (.tmp 72) (.tmp 73) (.const (.bool true)) rfl M9.out Try.underlying35 Try.underlying23 Try.underlying5 (by kernel_rfl) rfl x rfl true rfl (insK x s) HDE.out HUP.out ?_; intro w10 o10 m10; have B10 := Lib.hid (B9.out.trans (o10.below (by simp; exact HMB.out))); have K10 := Lib.hid (o10.blk K9.out (by simpa using M9.out.blk_ne K9.out)); have R10 := Lib.hid ((R9.out.onlyMap M9.out o10).more (Nat.le_of_eq o10.size.symm)); have M10 := Lib.hid m10; clear o10 m10; simp only [Act.put, List.setIfInBounds_toArray, List.set_cons_succ, List.set_cons_zero]))
          refine wp_region_from (by kernel_rfl) (by kernel_rfl) ?_
          repeat (first
            | go_big_quiet_skip
            | ((with_reducible refine at_qload 8 ?_); refine wpQuiet_load_row (by rfl) 23 (.tmp 8) rfl wr.heap.size rfl 23 (bytesA x.1) _ (fun _ hC => below_blk hC.below K10.out K10.out.lt) Try.underlying23 rfl (szK x) ?_; simp only [Act.put, List.setIfInBounds_toArray, List.set_cons_succ, List.set_cons_zero])
            | ((with_reducible refine at_qlook 77 78 ?_); refine wpQuiet_lookB (by rfl) (.tmp 77) (.tmp 78) rfl (fun _ hC => M10.out.below hC.below M10.out.lt) Try.underlying35 Try.underlying23 Try.underlying5 (by kernel_rfl) (fun _ => by kernel_rfl) rfl x rfl true HDE.out ?_; simp only [Act.put, List.setIfInBounds_toArray, List.set_cons_succ, List.set_cons_zero])
            | (go_big_quiet_want; go_big_quiet_op; refine ⟨_, fun _ _ => by with_reducible rfl, ?_⟩; go_big_quiet_on)
            | go_big_quiet_step ((intro hC; go_at_call 22; with_reducible exact (HHA.out A9 c9 _ ((R10.out.below hC.below).more hC.below.size)).mono fun _ _ h => ⟨h.1, hC.call h.2⟩)))
          refine wpQuiet_nil ?_
          intro w11 hC
          have B11 := Lib.hid (B10.out.trans (hC.below.mono B10.out.size))
          have R11 := Lib.hid ((R10.out.below hC.below).more hC.below.size)
          have M11 := Lib.hid (M10.out.below hC.below M10.out.lt)
          clear hC
          go_wp2_with fail
          go_roundw
          case rel => exact ⟨j + 1, md, A9, c9, by go_num, by omega, rfl, Lib.hid ⟨insK x s, HMD.out.symm, by rw [← HMD.out]; exact HLJ.out, HIS.out, HSX.out, R11.out, M11.out⟩, B11⟩
          case measure => simp [intOf]; omega
        · have e1 : decide ((j : Int) < (nt : Int)) = false := decide_eq_false (by omega)
          clear htk
          have HLJ : Hid ((insK x s).length ≤ j + 1) := Lib.hid (by have h1 := HM.out; have h2 := HMJ.out; have h3 := insK_len x s; omega)
          have HLE : Hid ((insK x s).length ≤ 1000000) := Lib.hid (by have := HLJ.out; omega)
          have HIS : Hid (IsSet (insK x s)) := Lib.hid (insK_set HSS.out)
          have HSX : Hid (∀ y ∈ insK x s, y ∈ l.take (j + 1)) := Lib.hid (fun y hy => by
            rw [HSN.out]
            rcases insK_mem.1 hy with e | e
            · rw [e]; simp
            · exact List.mem_append_left _ (HSL.out y e))
          have HUP : Hid (∀ y, y ≠ x → (y ∈ insK x s ↔ y ∈ s)) := Lib.hid (fun y hy => ⟨fun q => (insK_mem.1 q).resolve_left hy, fun q => insK_mem.2 (Or.inr q)⟩)
          obtain ⟨md, hmd⟩ : ∃ q, (insK x s).length = q := ⟨_, rfl⟩
          have HCA := Lib.hid (fun W (hR : RowIn encK 32 W W.heap.size A1 c1 s) => insert_in A1 c1 s x W.heap.size (by rw [← HM.out]; have := HMJ.out; omega) W (Nat.le_refl _) hR)
          rw [← HM.out, hmd, HRR.out] at HCA
          have HMD := Lib.hid hmd
          clear hmd
          have HDE : Hid (decide (x ∈ insK x s) = true) := Lib.hid (decide_eq_true (insK_mem.2 (Or.inl rfl)))
          have HHA := Lib.hid (fun A9 c9 W (hR : RowIn encK 32 W W.heap.size A9 c9 (insK x s)) => has_any A9 c9 (insK x s) x W.heap.size HLE.out W (Nat.le_refl _) hR)
          rw [HMD.out, HDE.out] at HHA
          go_wp2_with (first
            | ((with_reducible refine at_loadg 34 ?_); refine tyK.wpList_load (by rfl) (.tmp 34) rfl g _ rfl x ((HX.out).cast (by omega)) ?_; simp only [encK_bytes])
            | ((with_reducible refine at_store 8 35 ?_); refine wpList_store_arr rfl 23 (.tmp 8) (.tmp 35) rfl rfl wr.heap.size (bytesA x.1) rfl rfl 23 _ (Blk.new wr 23 (bytesA (List.replicate 32 0))) (szK x) (by rw [bytesA_size, bytesA_size, x.2]; simp) (bytesA_one _) ?_; intro w8 o8 b8; have BB8 : Below wr.heap.size wr w8 := ((Below.refl _ _).alloc (Nat.le_refl _) _).trans (o8.below (by simp)); have B8 := Lib.hid (HW.out.trans (BB8.mono HW.out.size)); have K8 := Lib.hid b8; have M8 := Lib.hid (HSM.out.below BB8 HSM.out.lt); have R8 := Lib.hid ((HSR.out.below BB8).more BB8.size); clear o8 b8 BB8)
            | ((with_reducible refine at_loadg 8 ?_); refine wpList_load_rowg (by rfl) 23 (.tmp 8) rfl wr.heap.size rfl 23 (bytesA x.1) _ K9.out Try.underlying23 rfl (szK x) ?_)
            | ((with_reducible refine at_loadg 8 ?_); refine wpList_load_rowg (by rfl) 23 (.tmp 8) rfl wr.heap.size rfl 23 (bytesA x.1) _ K8.out Try.underlying23 rfl (szK x) ?_)
            | (go_at_call 11; refine (HCA.out w8 R8.out).mono ?_; rintro e w9 ⟨A9, c9, rfl, r9, b9⟩; have B9 := Lib.hid (B8.out.trans (b9.mono B8.out.size)); have K9 := Lib.hid (below_blk b9 K8.out K8.out.lt); have M9 := Lib.hid (M8.out.below b9 M8.out.lt); have R9 := Lib.hid r9; clear r9 b9)
            | ((with_reducible refine at_look 67 68 ?_); refine wpList_lookB (by rfl) (.tmp 67) (.tmp 68) rfl M9.out Try.underlying35 Try.underlying23 Try.underlying5 (by kernel_rfl) (fun _ => by kernel_rfl) rfl x rfl r HRR.out ?_)
            | ((with_reducible refine at_upd 72 73 ?_); refine wpList_updB rfl (.tmp 72) (.tmp 73) (.const (.bool true)) rfl M9.out Try.underlying35 Try.underlying23 Try.underlying5 (by kernel_rfl) rfl x rfl true rfl (insK x s) HDE.out HUP.out ?_; intro w10 o10 m10; have B10 := Lib.hid (B9.out.trans (o10.below (by simp; exact HMB.out))); have K10 := Lib.hid (o10.blk K9.out (by simpa using M9.out.blk_ne K9.out)); have R10 := Lib.hid ((R9.out.onlyMap M9.out o10).more (Nat.le_of_eq o10.size.symm)); have M10 := Lib.hid m10; clear o10 m10; simp only [Act.put, List.setIfInBounds_toArray, List.set_cons_succ, List.set_cons_zero]))
          refine wp_region_from (by kernel_rfl) (by kernel_rfl) ?_
          repeat (first
            | go_big_quiet_skip
            | ((with_reducible refine at_qload 8 ?_); refine wpQuiet_load_row (by rfl) 23 (.tmp 8) rfl wr.heap.size rfl 23 (bytesA x.1) _ (fun _ hC => below_blk hC.below K10.out K10.out.lt) Try.underlying23 rfl (szK x) ?_; simp only [Act.put, List.setIfInBounds_toArray, List.set_cons_succ, List.set_cons_zero])
            | ((with_reducible refine at_qlook 77 78 ?_); refine wpQuiet_lookB (by rfl) (.tmp 77) (.tmp 78) rfl (fun _ hC => M10.out.below hC.below M10.out.lt) Try.underlying35 Try.underlying23 Try.underlying5 (by kernel_rfl) (fun _ => by kernel_rfl) rfl x rfl true HDE.out ?_; simp only [Act.put, List.setIfInBounds_toArray, List.set_cons_succ, List.set_cons_zero])
            | (go_big_quiet_want; go_big_quiet_op; refine ⟨_, fun _ _ => by with_reducible rfl, ?_⟩; go_big_quiet_on)
            | go_big_quiet_step ((intro hC; go_at_call 22; with_reducible exact (HHA.out A9 c9 _ ((R10.out.below hC.below).more hC.below.size)).mono fun _ _ h => ⟨h.1, hC.call h.2⟩)))
          refine wpQuiet_nil ?_
          intro w11 hC
          have B11 := Lib.hid (B10.out.trans (hC.below.mono B10.out.size))
          have R11 := Lib.hid ((R10.out.below hC.below).more hC.below.size)
          have M11 := Lib.hid (M10.out.below hC.below M10.out.lt)
          clear hC
          go_wp2_with fail
          go_roundw
          case rel => exact ⟨j + 1, md, A9, c9, by go_num, by omega, rfl, Lib.hid ⟨insK x s, HMD.out.symm, by rw [← HMD.out]; exact HLJ.out, HIS.out, HSX.out, R11.out, M11.out⟩, B11⟩
          case measure => simp [intOf]; omega
    · have hje : j = n := by omega
      subst hje
      have hml : m ≤ 200 := by have := HMJ.out; omega
      have HSA := Lib.hid (show ∀ x ∈ s, x ∈ l from fun x hx => List.mem_of_mem_take (HSL.out x hx))
      clear HSL HMJ
      have HSI := Lib.hid (List.pairwise_iff_getElem.1 HSS.out)
      obtain ⟨wo, rfl⟩ : ∃ q, q = wr := ⟨_, rfl⟩
      go_wp2_with fail
      go_loopw [13] (fun si wr => ∃ z : Int, si = .int .i64 z ∧ 0 ≤ z ∧ z ≤ m ∧ Hid (Below wo.heap.size wo wr)) (fun i _ => m - (intOf i).toNat)
      case atStart => exact ⟨0, rfl, by omega, by omega, Lib.hid (Below.refl _ _)⟩
      case round =>
        obtain ⟨z, rfl, hz0, hz1, HQ⟩ := hrel
        by_cases hlt2 : z < m
        · obtain ⟨gs, os, rfl, hgs, hcs⟩ := (HSR.out.below HQ.out).cells (by intro e; have h1 := HM.out; rw [e] at h1; simp at h1; omega)
          have HC := Lib.hid hcs
          clear hcs
          have hgw : gs < wr.heap.size := by have := HQ.out.size; omega
          have HMQ := Lib.hid (HSM.out.below HQ.out HSM.out.lt)
          by_cases hz : z = 0
          · subst hz
            have h0 : 0 < s.length := by rw [← HM.out]; omega
            have HX := Lib.hid (HC.out.at encK_len h0)
            have HXM := Lib.hid (decide_eq_true (List.getElem_mem h0))
            obtain ⟨x, hx⟩ : ∃ x, s[0]'h0 = x := ⟨_, rfl⟩
            rw [hx] at HX HXM
            clear hx h0
            go_wp2_with fail
            refine wp_region_from (by kernel_rfl) (by kernel_rfl) ?_
            repeat (first
              | go_big_quiet_skip
              | ((with_reducible refine at_qload 90 ?_); refine tyK.wpQuiet_load (by rfl) (.tmp 90) rfl gs _ rfl x (fun W hC => (HX.out.below hC.below hgw).cast (by omega)) ?_; simp only [encK_bytes, Act.put, List.setIfInBounds_toArray, List.set_cons_succ, List.set_cons_zero])
              | ((with_reducible refine at_qlook 87 91 ?_); refine wpQuiet_lookB (by rfl) (.tmp 87) (.tmp 91) rfl (fun _ hC => HMQ.out.below hC.below HMQ.out.lt) Try.underlying35 Try.underlying23 Try.underlying5 (by kernel_rfl) (fun _ => by kernel_rfl) rfl x rfl true HXM.out ?_; simp only [Act.put, List.setIfInBounds_toArray, List.set_cons_succ, List.set_cons_zero])
              | (go_big_quiet_want; go_big_quiet_op; refine ⟨_, fun _ _ => by with_reducible rfl, ?_⟩; go_big_quiet_on)
              | go_big_quiet_step ((fail)))
            refine wpQuiet_nil ?_
            intro w9 hC
            go_wp2_with fail
            go_roundw
            case rel => exact ⟨1, by go_num, by omega, by omega, Lib.hid (HQ.out.trans (hC.below.mono HQ.out.size))⟩
            case measure => simp [intOf]; omega
          · obtain ⟨t, rfl⟩ : ∃ t : Nat, z = (t : Int) + 1 := ⟨(z - 1).toNat, by omega⟩
            have ht : t + 1 < s.length := by rw [← HM.out]; omega
            have ht0 : t < s.length := by omega
            have HX := Lib.hid (HC.out.at encK_len ht)
            have HY := Lib.hid (HC.out.at encK_len ht0)
            have HXM := Lib.hid (decide_eq_true (List.getElem_mem ht))
            have hyx := HSI.out t (t + 1) ht0 ht (by omega)
            obtain ⟨x, hx⟩ : ∃ x, s[t + 1]'ht = x := ⟨_, rfl⟩
            obtain ⟨y, hy⟩ : ∃ y, s[t]'ht0 = y := ⟨_, rfl⟩
            rw [hx] at HX HXM hyx
            rw [hy] at HY hyx
            clear hx hy ht ht0
            have HL := Lib.hid (fun W => less_any y x W)
            rw [hyx] at HL
            clear hyx
            have d1 : (0 : Int) ≤ (t : Int) := by omega
            have d2 : (t : Int) < (m : Int) := by omega
            have d3 : (0 : Int) ≤ (t : Int) + 1 := by omega
            have d4 : (0 : Int) < (t : Int) + 1 := by omega
            go_wp2_with fail
            refine wp_region_from (by kernel_rfl) (by kernel_rfl) ?_
            repeat (first
              | go_big_quiet_skip
              | ((with_reducible refine at_qload 90 ?_); refine tyK.wpQuiet_load (by rfl) (.tmp 90) rfl gs _ rfl x (fun W hC => (HX.out.below hC.below hgw).cast (by omega)) ?_; simp only [encK_bytes, Act.put, List.setIfInBounds_toArray, List.set_cons_succ, List.set_cons_zero])
              | ((with_reducible refine at_qload 101 ?_); refine tyK.wpQuiet_load (by rfl) (.tmp 101) rfl gs _ rfl y (fun W hC => (HY.out.below hC.below hgw).cast (by omega)) ?_; simp only [encK_bytes, Act.put, List.setIfInBounds_toArray, List.set_cons_succ, List.set_cons_zero])
              | ((with_reducible refine at_qload 105 ?_); refine tyK.wpQuiet_load (by rfl) (.tmp 105) rfl gs _ rfl x (fun W hC => (HX.out.below hC.below hgw).cast (by omega)) ?_; simp only [encK_bytes, Act.put, List.setIfInBounds_toArray, List.set_cons_succ, List.set_cons_zero])
              | ((with_reducible refine at_qlook 87 91 ?_); refine wpQuiet_lookB (by rfl) (.tmp 87) (.tmp 91) rfl (fun _ hC => HMQ.out.below hC.below HMQ.out.lt) Try.underlying35 Try.underlying23 Try.underlying5 (by kernel_rfl) (fun _ => by kernel_rfl) rfl x rfl true HXM.out ?_; simp only [Act.put, List.setIfInBounds_toArray, List.set_cons_succ, List.set_cons_zero])
              | (go_big_quiet_want; go_big_quiet_op; refine ⟨_, fun _ _ => by with_reducible rfl, ?_⟩; go_big_quiet_on)
              | go_big_quiet_step ((intro hC; go_at_call 15; with_reducible exact (HL.out _).mono fun _ _ h => ⟨h.1, hC.call h.2.below⟩)))
            refine wpQuiet_nil ?_
            intro w9 hC
            go_wp2_with fail
            go_roundw
            case rel => exact ⟨(t : Int) + 1 + 1, by go_num, by omega, by omega, Lib.hid (HQ.out.trans (hC.below.mono HQ.out.size))⟩
            case measure => simp [intOf]; omega
        · have hze : z = m := by omega
          subst hze
          have BP := Lib.hid (HW.out.trans (HQ.out.mono HW.out.size))
          have HMP := Lib.hid (HSM.out.below HQ.out HSM.out.lt)
          have HRP := Lib.hid ((HSR.out.below HQ.out).more HQ.out.size)
          obtain ⟨wp, rfl⟩ : ∃ q, q = wr := ⟨_, rfl⟩
          clear HQ HSR HSM HW HSI hz0 hz1 hlt2 hlt hj
          go_wp2_with fail
          go_loopw [14, 15] (fun cv iv wr => ∃ q k : Nat, cv = .int .i64 q ∧ iv = .int .i64 k ∧ k ≤ j ∧ q ≤ k ∧ Hid (q = cntS l s k) ∧ Hid (Below wp.heap.size wp wr)) (fun _ i _ => j - (intOf i).toNat)
          case atStart => exact ⟨0, 0, rfl, rfl, by omega, by omega, Lib.hid (cntS_zero l s).symm, Lib.hid (Below.refl _ _)⟩
          case round =>
            obtain ⟨q, k, rfl, rfl, hk, hqk, HCN, HQ⟩ := hrel
            by_cases hlt : k < j
            · have hkl : k < l.length := by rw [HN.out]; exact hlt
              have HBW := Lib.hid (BP.out.trans (HQ.out.mono BP.out.size))
              have hri := HOR.out wr HBW.out
              obtain ⟨g, o, rfl, hg, hc⟩ := hri.cells (by intro e; subst e; simp at hkl)
              have HX := Lib.hid (hc.at encK_len hkl)
              have HOLD := Lib.hid (cntS_old l s k hkl)
              have HNEW := Lib.hid (cntS_new l s k hkl)
              clear hc
              obtain ⟨x, hx⟩ : ∃ x, l[k]'hkl = x := ⟨_, rfl⟩
              rw [hx] at HX HOLD HNEW
              clear hx hkl
              have hgw : g < wr.heap.size := by have := HBW.out.size; omega
              have htl : (l.take k).length = k := by rw [List.length_take, HN.out]; omega
              have HC := Lib.hid (fun W (hC : From wr W) => refHas_any (some ⟨g, o, none⟩) c (l.take k) x w.heap.size W (by rw [htl]; omega) (Nat.le_trans HBW.out.size hC.below.size) ((hri.take encK_len k).below (hC.below.mono HBW.out.size)))
              rw [htl] at HC
              have HS1 := Lib.hid (fun W => tyK.slice_to W (some ⟨g, o, none⟩) j c k (by have := hri.le; rw [HN.out] at this; omega))
              have HMQ := Lib.hid (HMP.out.below HQ.out HMP.out.lt)
              clear hri htl
              have d1 : (0 : Int) ≤ (k : Int) := by omega
              have d2 : (k : Int) < (j : Int) := by omega
              obtain ⟨b1, hb1⟩ : ∃ b, decide (x ∈ s) = b := ⟨_, rfl⟩
              obtain ⟨b2, hb2⟩ : ∃ b, decide (x ∈ l.take k) = b := ⟨_, rfl⟩
              rw [hb2] at HC
              have HB1 := Lib.hid hb1
              have HB2 := Lib.hid hb2
              clear hb1 hb2
              cases b1
              · go_wp2_with fail
                refine wp_region_from (by kernel_rfl) (by kernel_rfl) ?_
                repeat (first
                  | go_big_quiet_skip
                  | ((with_reducible refine at_qload 120 ?_); refine tyK.wpQuiet_load (by rfl) (.tmp 120) rfl g _ rfl x (fun W hC => (HX.out.below hC.below hgw).cast (by omega)) ?_; simp only [encK_bytes, Act.put, List.setIfInBounds_toArray, List.set_cons_succ, List.set_cons_zero])
                  | ((with_reducible refine at_qload 129 ?_); refine tyK.wpQuiet_load (by rfl) (.tmp 129) rfl g _ rfl x (fun W hC => (HX.out.below hC.below hgw).cast (by omega)) ?_; simp only [encK_bytes, Act.put, List.setIfInBounds_toArray, List.set_cons_succ, List.set_cons_zero])
                  | ((with_reducible refine at_qlook 117 121 ?_); refine wpQuiet_lookB (by rfl) (.tmp 117) (.tmp 121) rfl (fun _ hC => HMQ.out.below hC.below HMQ.out.lt) Try.underlying35 Try.underlying23 Try.underlying5 (by kernel_rfl) (fun _ => by kernel_rfl) rfl x rfl false HB1.out ?_; simp only [Act.put, List.setIfInBounds_toArray, List.set_cons_succ, List.set_cons_zero])
                  | ((with_reducible refine at_qslice 126 ?_); refine wpQuiet_of_run (by rfl) (.slice (some ⟨g, o, none⟩) k c) (fun W _ => by have hs1 := HS1.out; go_simp; try with_reducible rfl) ?_; simp only [Act.put, List.setIfInBounds_toArray, List.set_cons_succ, List.set_cons_zero])
                  | (go_big_quiet_want; go_big_quiet_op; refine ⟨_, fun _ _ => by with_reducible rfl, ?_⟩; go_big_quiet_on)
                  | go_big_quiet_step ((intro hC; go_at_call 23; with_reducible exact (HC.out _ hC).mono fun _ _ h => ⟨h.1, hC.call h.2⟩)))
                refine wpQuiet_nil ?_
                intro w9 hC
                go_wp2_with fail
                go_roundw
                case rel => exact ⟨q, k + 1, by go_num, by go_num, by omega, by omega, Lib.hid (by rw [HOLD.out (Or.inr (of_decide_eq_false HB1.out)), HCN.out]), Lib.hid (HQ.out.trans (hC.below.mono HQ.out.size))⟩
                case measure => simp [intOf]; omega
              · cases b2
                · go_wp2_with fail
                  refine wp_region_from (by kernel_rfl) (by kernel_rfl) ?_
                  repeat (first
                    | go_big_quiet_skip
                    | ((with_reducible refine at_qload 120 ?_); refine tyK.wpQuiet_load (by rfl) (.tmp 120) rfl g _ rfl x (fun W hC => (HX.out.below hC.below hgw).cast (by omega)) ?_; simp only [encK_bytes, Act.put, List.setIfInBounds_toArray, List.set_cons_succ, List.set_cons_zero])
                    | ((with_reducible refine at_qload 129 ?_); refine tyK.wpQuiet_load (by rfl) (.tmp 129) rfl g _ rfl x (fun W hC => (HX.out.below hC.below hgw).cast (by omega)) ?_; simp only [encK_bytes, Act.put, List.setIfInBounds_toArray, List.set_cons_succ, List.set_cons_zero])
                    | ((with_reducible refine at_qlook 117 121 ?_); refine wpQuiet_lookB (by rfl) (.tmp 117) (.tmp 121) rfl (fun _ hC => HMQ.out.below hC.below HMQ.out.lt) Try.underlying35 Try.underlying23 Try.underlying5 (by kernel_rfl) (fun _ => by kernel_rfl) rfl x rfl true HB1.out ?_; simp only [Act.put, List.setIfInBounds_toArray, List.set_cons_succ, List.set_cons_zero])
                    | ((with_reducible refine at_qslice 126 ?_); refine wpQuiet_of_run (by rfl) (.slice (some ⟨g, o, none⟩) k c) (fun W _ => by have hs1 := HS1.out; go_simp; try with_reducible rfl) ?_; simp only [Act.put, List.setIfInBounds_toArray, List.set_cons_succ, List.set_cons_zero])
                    | (go_big_quiet_want; go_big_quiet_op; refine ⟨_, fun _ _ => by with_reducible rfl, ?_⟩; go_big_quiet_on)
                    | go_big_quiet_step ((intro hC; go_at_call 23; with_reducible exact (HC.out _ hC).mono fun _ _ h => ⟨h.1, hC.call h.2⟩)))
                  refine wpQuiet_nil ?_
                  intro w9 hC
                  go_wp2_with fail
                  go_roundw
                  case rel => exact ⟨q + 1, k + 1, by go_num, by go_num, by omega, by omega, Lib.hid (by rw [HNEW.out (of_decide_eq_false HB2.out) (of_decide_eq_true HB1.out), HCN.out]), Lib.hid (HQ.out.trans (hC.below.mono HQ.out.size))⟩
                  case measure => simp [intOf]; omega
                · go_wp2_with fail
                  refine wp_region_from (by kernel_rfl) (by kernel_rfl) ?_
                  repeat (first
                    | go_big_quiet_skip
                    | ((with_reducible refine at_qload 120 ?_); refine tyK.wpQuiet_load (by rfl) (.tmp 120) rfl g _ rfl x (fun W hC => (HX.out.below hC.below hgw).cast (by omega)) ?_; simp only [encK_bytes, Act.put, List.setIfInBounds_toArray, List.set_cons_succ, List.set_cons_zero])
                    | ((with_reducible refine at_qload 129 ?_); refine tyK.wpQuiet_load (by rfl) (.tmp 129) rfl g _ rfl x (fun W hC => (HX.out.below hC.below hgw).cast (by omega)) ?_; simp only [encK_bytes, Act.put, List.setIfInBounds_toArray, List.set_cons_succ, List.set_cons_zero])
                    | ((with_reducible refine at_qlook 117 121 ?_); refine wpQuiet_lookB (by rfl) (.tmp 117) (.tmp 121) rfl (fun _ hC => HMQ.out.below hC.below HMQ.out.lt) Try.underlying35 Try.underlying23 Try.underlying5 (by kernel_rfl) (fun _ => by kernel_rfl) rfl x rfl true HB1.out ?_; simp only [Act.put, List.setIfInBounds_toArray, List.set_cons_succ, List.set_cons_zero])
                    | ((with_reducible refine at_qslice 126 ?_); refine wpQuiet_of_run (by rfl) (.slice (some ⟨g, o, none⟩) k c) (fun W _ => by have hs1 := HS1.out; go_simp; try with_reducible rfl) ?_; simp only [Act.put, List.setIfInBounds_toArray, List.set_cons_succ, List.set_cons_zero])
                    | (go_big_quiet_want; go_big_quiet_op; refine ⟨_, fun _ _ => by with_reducible rfl, ?_⟩; go_big_quiet_on)
                    | go_big_quiet_step ((intro hC; go_at_call 23; with_reducible exact (HC.out _ hC).mono fun _ _ h => ⟨h.1, hC.call h.2⟩)))
                  refine wpQuiet_nil ?_
                  intro w9 hC
                  go_wp2_with fail
                  go_roundw
                  case rel => exact ⟨q, k + 1, by go_num, by go_num, by omega, by omega, Lib.hid (by rw [HOLD.out (Or.inl (of_decide_eq_true HB2.out)), HCN.out]), Lib.hid (HQ.out.trans (hC.below.mono HQ.out.size))⟩
                  case measure => simp [intOf]; omega
            · have hke : k = j := by omega
              subst hke
              have hq : q = m := by
                rw [HCN.out, HM.out, ← HN.out]
                exact cntS_all l s HSS.out HSA.out
              subst hq
              have HBW := Lib.hid (BP.out.trans (HQ.out.mono BP.out.size))
              have HDI := Lib.hid (distinct_any A1 c1 s wr.heap.size wr (by rw [← HM.out]; omega) (Nat.le_refl _) ((HRP.out.below HQ.out).more HQ.out.size))
              rw [← HM.out, decide_eq_true HSS.out.nodup] at HDI
              clear HCN HSA HMP HQ hqk hk
              go_wp2_with (go_at_call 20; refine HDI.out.mono ?_; rintro e w9 ⟨rfl, b9⟩)
              go_ret
              exact ⟨rfl, HBW.out.trans (b9.mono HBW.out.size)⟩
theorem ksets_walk (A : Option Addr) (c : Nat) (l : List K32) (A' : Option Addr) (c' : Nat) (tk : List Bool) (w : World) (h : RowIn encK 32 w w.heap.size A c l) (h' : RowIn encB 1 w w.heap.size A' c' tk) :
    Calls Try.prog 4 #[.slice A l.length c, .slice A' tk.length c'] w fun e w' => e = .returned (.bool true) ∧ Below w.heap.size w w' := by
  by_cases hl : l.length ≤ 200
  · exact ksets_small A c l A' c' tk hl w h h'
  · obtain ⟨n, hn⟩ : ∃ n, l.length = n := ⟨_, rfl⟩
    rw [hn] at hl ⊢
    clear h h' hn
    generalize tk.length = nt
    have d0 : decide ((200 : Int) < (n : Int)) = true := decide_eq_true (by omega)
    go_enter Try.func4, Try.ntmps4
    go_wp2_with (go_at_call 10; refine (shown_any _).mono ?_; rintro e w1 ⟨rfl, b1⟩)
    go_ret
    exact ⟨rfl, b1⟩
end Go.Proofs.Ytdojjddobepccaa
