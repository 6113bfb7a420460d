/- keys.halves. -/
import Derived.Test.YticphjnabecanaaKeyW
import Derived.Test.YticphjnabecanaaKeyQ
import Derived.Test.YticphjnabecanaaGenA
namespace Go.Proofs.Yticphjnabecanaa
open Go.RowKit Go.Sort
theorem eqK_is {x y : K32} {r : Bool} (h : decide (x = y) = r) (V : World) : (Op.equal 26 (.agg (bytesA x.1)) (.agg (bytesA y.1))).run Try.prog V = .ok r V := h ▸ eqK_run x y V
theorem rowAgg : ∀ w, (isAgg 27).run Try.prog w = .ok false w := fun w => by simp [isAgg, run_underlying Try.underlying27]
theorem Gr.cell {w w' : World} (h : Gr w w') {p : Addr} {v : Value} (hc : w.cell? p = some v) : w'.cell? p = some v := (h.below.cell (p := p) (World.block_lt_of_cell? w p hc)).trans hc
set_option maxRecDepth 20000 in
set_option maxHeartbeats 1000000 in
theorem halvesC_any (p1 : Addr) (g3 : Nat) (A : Option Addr) (c : Nat) (l : List K32) (k : K32) (B : Nat) (i : Nat) (hi : i < l.length) (W : World) (hB : B ≤ W.heap.size) (h : RowIn encK 32 W B A c l) (h1 : W.cell? p1 = some (.slice A l.length c)) (h2 : Blk W g3 26 (bytesA k.1)) :
    Calls Try.prog 72 #[.int .i64 i, .pointer (some p1), .pointer (some ⟨g3, 0, none⟩)] W fun e w' => e = .returned (.bool !(ltK l[i] k)) ∧ Gr W w' := by
  obtain ⟨g, o, rfl, hg, hc⟩ := h.cells (by intro e; subst e; simp at hi)
  have HX := Lib.hid (hc.at encK_len hi)
  clear hc h
  have H1 := Lib.hid h1
  have H2 := Lib.hid h2
  have d1 : (0 : Int) ≤ (i : Int) := by omega
  have d2 : (i : Int) < (l.length : Int) := by omega
  obtain ⟨x, hx⟩ : ∃ x, l[i] = x := ⟨_, rfl⟩
  rw [hx] at HX ⊢
  clear hx
  obtain ⟨n, hn⟩ : ∃ n, l.length = n := ⟨_, rfl⟩
  rw [hn] at H1 d2
  clear hn hi h1 h2
  have HL := Lib.hid (fun W => less_any x k W)
  obtain ⟨b, hb⟩ : ∃ b, ltK x k = b := ⟨_, rfl⟩
  rw [hb] at HL ⊢
  clear hb
  go_enter Try.func72, Try.ntmps72
  go_wp2_with fail
  refine wp_region_gr (by kernel_rfl) (by kernel_rfl) ?_
  repeat (first
    | ((with_reducible refine at_qload 1 ?_); refine wpQuiet_load_one (by rfl) 27 (.tmp 1) rfl p1 rfl (.slice (some ⟨g, o, none⟩) n c) rowAgg (fun W hC => hC.cell H1.out) ?_; simp only [Act.put, List.setIfInBounds_toArray, List.set_cons_succ, List.set_cons_zero])
    | ((with_reducible refine at_qload 7 ?_); refine tyK.wpQuiet_load (by rfl) (.tmp 7) rfl g _ rfl x (fun W hC => (HX.out.below hC.below (by omega)).cast (by omega)) ?_; simp only [encK_bytes, Act.put, List.setIfInBounds_toArray, List.set_cons_succ, List.set_cons_zero])
    | ((with_reducible refine at_qload 2 ?_); refine wpQuiet_load_row (by rfl) 26 (.tmp 2) rfl g3 rfl 26 (bytesA k.1) _ (fun _ hC => below_blk hC.below H2.out H2.out.lt) Try.underlying26 rfl (szK k) ?_; simp only [Act.put, List.setIfInBounds_toArray, List.set_cons_succ, List.set_cons_zero])
    | (go_big_quiet_want; go_big_quiet_op; refine ⟨_, fun _ _ => by with_reducible rfl, ?_⟩; go_big_quiet_on)
    | go_big_quiet_step ((intro hC; go_at_call 73; with_reducible exact (HL.out _).mono fun _ _ h => ⟨h.1, hC.trans h.2⟩)))
  refine wpQuiet_nil ?_
  intro w9 hC
  go_wp2_with fail
  go_ret
  exact ⟨rfl, hC⟩
theorem enters43 : ∀ args w, (callFunc 72 args).run Try.prog w = .ok (.enter 72 args) w := enters_of Try.func72 (by kernel_rfl) rfl
theorem search_any (p1 : Addr) (g3 : Nat) (A : Option Addr) (c : Nat) (l : List K32) (k : K32) (B : Nat) (hl : l.length ≤ 1000000) (hr : Rises l) (w : World) (hB : B ≤ w.heap.size) (h : RowIn encK 32 w B A c l) (h1 : w.cell? p1 = some (.slice A l.length c)) (h2 : Blk w g3 26 (bytesA k.1)) :
    Calls Try.prog 71 #[.int .i64 l.length, .func (.func 72) #[] #[.pointer (some p1), .pointer (some ⟨g3, 0, none⟩)]] w fun e w' => e = .returned (.int .i64 (lowI k l : Nat)) ∧ Gr w w' := by
  have hs := Any.sort_Search kSearch 72 #[.pointer (some p1), .pointer (some ⟨g3, 0, none⟩)] l.length (fun i => !(ltK (l.getD i default) k)) w enters43 (by omega)
    (fun m os i hi => by
      have hG : Gr w (grow (w.drewN m) os) := ⟨m, os, rfl⟩
      have := halvesC_any p1 g3 A c l k B i hi (grow (w.drewN m) os) (Nat.le_trans hB hG.size) ⟨h.le, h.max, fun hn => let ⟨g, o, e, hg, hc⟩ := h.cells hn; ⟨g, o, e, hg, hc.below hG.below (by omega)⟩⟩ (hG.cell h1) (below_blk hG.below h2 h2.lt)
      rw [List.getD_eq_getElem?_getD, List.getElem?_eq_getElem hi]
      exact this)
    (fun a b hab hb ha => by
      rw [List.getD_eq_getElem?_getD, List.getElem?_eq_getElem (by omega)] at ha ⊢
      simp only [Option.getD_some, Bool.not_eq_true'] at ha ⊢
      by_cases e : a = b
      · subst e; exact ha
      · exact ltK_ntrans (List.pairwise_iff_getElem.1 hr a b (by omega) hb (by omega)) ha)
  have hc : (List.range l.length).countP (fun i => !(!(ltK (l.getD i default) k))) = lowI k l := by
    unfold lowI
    have := Lib.countP_range l.toArray (fun x => ltK x k)
    simp only [List.size_toArray] at this
    rw [← this]
    apply List.countP_congr
    intro i hi
    have hi' : i < l.length := by simpa using hi
    simp [List.getD_eq_getElem?_getD, hi', getElem!_pos]
  rw [hc] at hs
  exact hs
set_option maxRecDepth 20000 in
set_option maxHeartbeats 1000000 in
theorem halves_any (A : Option Addr) (c : Nat) (l : List K32) (k : K32) (B : Nat) (hl : l.length ≤ 1000000) (hr : Rises l) (w : World) (hB : B ≤ w.heap.size) (h : RowIn encK 32 w B A c l) :
    Calls Try.prog 56 #[.slice A l.length c, .agg (bytesA k.1)] w fun e w' => e = .returned (.tuple #[.int .i64 (lowI k l : Nat), .bool (decide (k ∈ l))]) ∧ Below w.heap.size w w' := by
  have b0 : (w.alloc (.cells #[.slice A l.length c] 27)).cell? ⟨w.heap.size, 0, none⟩ = some (.slice A l.length c) := by rw [World.cell?_alloc_at _ _ _ _ (by simp)]; rfl
  have b1 : Below w.heap.size w ((w.alloc (.cells #[.slice A l.length c] 27)).alloc (.cells (bytesA k.1) 26)) := ((Below.refl _ _).alloc (Nat.le_refl _) _).alloc (by simp) _
  have b2 : ((w.alloc (.cells #[.slice A l.length c] 27)).alloc (.cells (bytesA k.1) 26)).cell? ⟨w.heap.size, 0, none⟩ = some (.slice A l.length c) := (World.cell?_alloc_lt _ _ ⟨w.heap.size, 0, none⟩ (by simp)).trans b0
  have b3 := blk_new (w := w.alloc (.cells #[.slice A l.length c] 27)) 26 (bytesA k.1) (g := w.heap.size + 1) (by simp)
  have hS := Lib.hid (search_any ⟨w.heap.size, 0, none⟩ (w.heap.size + 1) A c l k B hl hr ((w.alloc (.cells #[.slice A l.length c] 27)).alloc (.cells (bytesA k.1) 26)) (by simp; omega) (h.below (b1.mono hB)) b2 b3)
  have HB1 := Lib.hid b1
  have HB2 := Lib.hid (And.intro b2 b3)
  clear b0 b1 b2 b3
  have HH := Lib.hid h
  have HI := Lib.hid (low_is k l hr)
  have hle := lowI_le k l
  clear h
  obtain ⟨r, hr'⟩ : ∃ r, decide (k ∈ l) = r := ⟨_, rfl⟩
  rw [hr']
  have HR := Lib.hid hr'
  clear hr' hr
  obtain ⟨j, hj⟩ : ∃ j, lowI k l = j := ⟨_, rfl⟩
  rw [hj] at hS hle HI ⊢
  clear hj
  obtain ⟨n, hn⟩ : ∃ n, l.length = n := ⟨_, rfl⟩
  have HN := Lib.hid hn
  rw [hn] at hS hle hl HB1 HB2 ⊢
  clear hn
  go_enter Try.func56, Try.ntmps56
  go_wp2_with (go_at_call 71; refine hS.out.mono ?_; rintro e w1 ⟨rfl, g1⟩)
  have B1 := HB1.out.trans (g1.below.mono HB1.out.size)
  have K2 := Lib.hid (And.intro (World.block_lt_of_cell? w1 _ (g1.cell HB2.out.1)) (g1.cell HB2.out.1))
  have K3 := Lib.hid (below_blk g1.below HB2.out.2 HB2.out.2.lt)
  clear g1 hS HB1 HB2
  by_cases hlt : j < n
  · have hj' : j < l.length := by rw [HN.out]; exact hlt
    obtain ⟨g, o, rfl, hg, hc⟩ := HH.out.cells (by intro e; subst e; simp at hj')
    have HX := Lib.hid ((hc.below (B1.mono (Nat.le_refl _)) (by omega)).at encK_len hj')
    clear hc
    have hgw : g < w1.heap.size := by have := B1.size; omega
    have HIX := Lib.hid (show (l[j]'hj' = k) ↔ k ∈ l from ⟨fun e => HI.out.1 ⟨hj', e⟩, fun e => (HI.out.2 e).2⟩)
    obtain ⟨x, hx⟩ : ∃ x, l[j]'hj' = x := ⟨_, rfl⟩
    rw [hx] at HX HIX
    clear hx
    have hE : decide (x = k) = r := by rw [← HR.out, decide_eq_decide]; exact HIX.out
    have HE := Lib.hid (eqK_is hE)
    clear hE
    have d1 : (0 : Int) ≤ (j : Int) := by omega
    have d2 : decide ((j : Int) < (n : Int)) = true := decide_eq_true (by omega)
    have d3 : (j : Int) < (n : Int) := by omega
    refine wp_region_from (by kernel_rfl) (by kernel_rfl) ?_
    repeat (first
      | go_big_quiet_skip
      | ((with_reducible refine at_qload 2 ?_); refine wpQuiet_load_one (by rfl) 27 (.tmp 2) rfl ⟨w.heap.size, 0, none⟩ rfl (.slice (some ⟨g, o, none⟩) n c) rowAgg (fun W hC => (hC.below.cell (p := ⟨w.heap.size, 0, none⟩) K2.out.1).trans K2.out.2) ?_; simp only [Act.put, List.setIfInBounds_toArray, List.set_cons_succ, List.set_cons_zero])
      | ((with_reducible refine at_qload 19 ?_); refine tyK.wpQuiet_load (by rfl) (.tmp 19) rfl g _ rfl x (fun W hC => (HX.out.below hC.below hgw).cast (by omega)) ?_; simp only [encK_bytes, Act.put, List.setIfInBounds_toArray, List.set_cons_succ, List.set_cons_zero])
      | ((with_reducible refine at_qload 3 ?_); refine wpQuiet_load_row (by rfl) 26 (.tmp 3) rfl (w.heap.size + 1) rfl 26 (bytesA k.1) _ (fun _ hC => below_blk hC.below K3.out K3.out.lt) Try.underlying26 rfl (szK k) ?_; simp only [Act.put, List.setIfInBounds_toArray, List.set_cons_succ, List.set_cons_zero])
      | ((with_reducible refine at_qeql 20 21 ?_); refine wpQuiet_eql_row (by rfl) 26 _ (.tmp 20) (.tmp 21) rfl (bytesA x.1) (bytesA k.1) rfl rfl (by kernel_rfl) r HE.out ?_; simp only [Act.put, List.setIfInBounds_toArray, List.set_cons_succ, List.set_cons_zero])
      | (go_big_quiet_want; go_big_quiet_op; refine ⟨_, fun _ _ => by with_reducible rfl, ?_⟩; go_big_quiet_on)
      | go_big_quiet_step (fail))
    refine wpQuiet_nil ?_
    intro w9 hC
    go_wp2_with fail
    go_ret2
    exact ⟨rfl, B1.trans (hC.below.mono B1.size)⟩
  · have hr0 : r = false := by
      rw [← HR.out]
      exact decide_eq_false fun hm => by obtain ⟨h1, _⟩ := HI.out.2 hm; have := HN.out; omega
    subst hr0
    have d2 : decide ((j : Int) < (n : Int)) = false := decide_eq_false (by omega)
    refine wp_region_from (by kernel_rfl) (by kernel_rfl) ?_
    repeat (first
      | go_big_quiet_skip
      | ((with_reducible refine at_qload 2 ?_); refine wpQuiet_load_one (by rfl) 27 (.tmp 2) rfl ⟨w.heap.size, 0, none⟩ rfl (.slice A n c) rowAgg (fun W hC => (hC.below.cell (p := ⟨w.heap.size, 0, none⟩) K2.out.1).trans K2.out.2) ?_; simp only [Act.put, List.setIfInBounds_toArray, List.set_cons_succ, List.set_cons_zero])
      | ((with_reducible refine at_qload 3 ?_); refine wpQuiet_load_row (by rfl) 26 (.tmp 3) rfl (w.heap.size + 1) rfl 26 (bytesA k.1) _ (fun _ hC => below_blk hC.below K3.out K3.out.lt) Try.underlying26 rfl (szK k) ?_; simp only [Act.put, List.setIfInBounds_toArray, List.set_cons_succ, List.set_cons_zero])
      | (go_big_quiet_want; go_big_quiet_op; refine ⟨_, fun _ _ => by with_reducible rfl, ?_⟩; go_big_quiet_on)
      | go_big_quiet_step (fail))
    refine wpQuiet_nil ?_
    intro w9 hC
    go_wp2_with fail
    go_ret2
    exact ⟨rfl, B1.trans (hC.below.mono B1.size)⟩
end Go.Proofs.Yticphjnabecanaa
