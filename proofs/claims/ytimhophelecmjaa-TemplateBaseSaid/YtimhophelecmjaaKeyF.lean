/- The reference's put, Sort, Insert, Remove, Distinct, Meet (made by genRef.py). -/
import Derived.Test.YtimhophelecmjaaKeyN
import Derived.Test.YtimhophelecmjaaKeyI
import Derived.Test.YtimhophelecmjaaGenA
namespace Go.Proofs.Ytimhophelecmjaa
open Go.RowKit Go.Sort
theorem zcK : ((Try.prog.info? 24).bind (·.zero)).map (·.cells.size) = some 32 := by kernel_rfl
theorem zbK : (Try.prog.info? 24).map (·.bytes) = some 32 := by kernel_rfl
theorem putK_split (k : K32) : ∀ (a b : List K32), (∀ x ∈ a, ltK k x = false) → (∀ x, b.head? = some x → ltK k x = true) → putK k (a ++ b) = a ++ k :: b
  | [], [], _, _ => rfl
  | [], y :: b, _, h => by show putK k (y :: b) = _; unfold putK; rw [if_pos (h y rfl)]; rfl
  | y :: a, b, ha, h => by
    show putK k (y :: (a ++ b)) = _
    unfold putK
    rw [if_neg (by rw [ha y (by simp)]; simp), putK_split k a b (fun x hx => ha x (by simp [hx])) h]
    rfl
theorem take_snoc (l : List K32) (j : Nat) (hj : j < l.length) : l.take (j + 1) = l.take j ++ [l[j]] := by rw [List.take_add_one, List.getElem?_eq_getElem hj]; rfl
theorem nodup_snoc (l : List K32) (x : K32) : (l ++ [x]).Nodup ↔ l.Nodup ∧ x ∉ l := by
  rw [List.nodup_append]
  constructor
  · rintro ⟨h1, _, h3⟩; exact ⟨h1, fun hm => h3 x hm x (by simp) rfl⟩
  · rintro ⟨h1, h2⟩; exact ⟨h1, by simp, fun a ha b hb e => by simp at hb; subst hb; subst e; exact h2 ha⟩
theorem own_grown {w w' : World} {base : Nat} {e : TypeId} {size n : Nat} {v : Value} {xs : List Value} (h : w.ownsRow base e size v n xs) (hg : w.grownBy w' v.ownBlock) (hB : base ≤ w.heap.size) : Below base w w' := (Below.refl _ _).grown hg hB (own_base h)
theorem own_alloc {w : World} {base : Nat} {e : TypeId} {size n : Nat} {v : Value} {xs : List Value} (h : w.ownsRow base e size v n xs) (o : Obj) : (w.alloc o).ownsRow base e size v n xs := ⟨h.1, h.2.imp id fun ⟨g, cap, cur, h1, h2, h3, h4⟩ => ⟨g, cap, cur, h1, h2, (Below.heap_alloc w o g (by
    rcases Nat.lt_or_ge g w.heap.size with hlt | hge
    · exact hlt
    · rw [Array.getElem?_eq_none hge] at h3; cases h3)).trans h3, h4⟩⟩
theorem own_from' {w W : World} {base : Nat} {e : TypeId} {size n : Nat} {v : Value} {xs : List Value} (h : w.ownsRow base e size v n xs) (hb : Below w.heap.size w W) : W.ownsRow base e size v n xs :=
  ⟨h.1, h.2.imp id fun ⟨g, cap, cur, h1, h2, h3, h4⟩ => ⟨g, cap, cur, h1, h2, (hb.block g (by
    rcases Nat.lt_or_ge g w.heap.size with hlt | hge
    · exact hlt
    · rw [Array.getElem?_eq_none hge] at h3; cases h3)).trans h3, h4⟩⟩
theorem own_congr {w : World} {base : Nat} {e : TypeId} {size : Nat} {v : Value} {l m : List K32} (h : w.ownsRow base e size v l.length (cellsOf encK l)) (e' : l = m) : w.ownsRow base e size v m.length (cellsOf encK m) := e' ▸ h
theorem own_nil {w : World} {g : Nat} {base : Nat} (hb : Blk w g 24 #[]) (hg : base ≤ g) : w.ownsRow base 24 32 (.slice (some ⟨g, 0, none⟩) 0 0) ([] : List K32).length (cellsOf encK []) :=
  ⟨rfl, .inr ⟨g, 0, #[], rfl, hg, hb, Nat.le_refl _, Nat.zero_le _, rfl, rfl⟩⟩
theorem erase_split (k : K32) (a b : List K32) (ha : ∀ x ∈ a, x ≠ k) : (a ++ k :: b).erase k = a ++ b := by
  induction a with
  | nil => simp
  | cons y a ih =>
    have hy : y ≠ k := ha y (by simp)
    show (y :: (a ++ k :: b)).erase k = _
    rw [List.erase_cons_tail (by rw [beq_eq_false_iff_ne.mpr hy]; simp), ih (fun x hx => ha x (by simp [hx]))]
    rfl
set_option maxRecDepth 20000 in
set_option maxHeartbeats 2000000 in
theorem refDistinct_any (A : Option Addr) (c : Nat) (l : List K32) (B : Nat) (hl : l.length ≤ 100000) (w : World) (hB : B ≤ w.heap.size) (h : RowIn encK 32 w B A c l) :
    Calls Try.prog 15 #[.slice A l.length c] w fun e w' => e = .returned (.bool (decide l.Nodup)) ∧ Below w.heap.size w w' := by
  have HOR := Lib.hid (fun W (hW : Below w.heap.size w W) => h.below (w' := W) (hW.mono hB))
  have hcl := h.le
  clear h
  obtain ⟨r, hr⟩ : ∃ r, decide l.Nodup = r := ⟨_, rfl⟩
  rw [hr]
  have HR := Lib.hid hr
  clear hr
  obtain ⟨n, hn⟩ : ∃ n, l.length = n := ⟨_, rfl⟩
  rw [hn] at hl hcl ⊢
  have HN := Lib.hid hn
  clear hn
  go_enter Try.func15, Try.ntmps15
  go_wp2_with fail
  go_loopw [3] (fun si wr => ∃ j : Nat, si = .int .i64 j ∧ j ≤ n ∧ Hid ((l.take j).Nodup) ∧ Hid (Below w.heap.size w wr)) (fun i _ => n - (intOf i).toNat)
  case atStart => exact ⟨0, rfl, by omega, Lib.hid (by simp), Lib.hid (Below.refl _ _)⟩
  case round =>
    obtain ⟨j, rfl, hj, HI, HW⟩ := hrel
    by_cases hlt : j < n
    · have hjl : j < l.length := by rw [HN.out]; exact hlt
      have HSN := Lib.hid (take_snoc l j hjl)
      have hri := HOR.out wr HW.out
      obtain ⟨g, o, rfl, hg, hc⟩ := hri.cells (by intro e; subst e; simp at hjl)
      have HX := Lib.hid (hc.at encK_len hjl)
      clear hc
      obtain ⟨x, hx⟩ : ∃ x, l[j]'hjl = x := ⟨_, rfl⟩
      rw [hx] at HX HSN
      clear hx
      have hgw : g < wr.heap.size := by have := HW.out.size; omega
      have htl : (l.take j).length = j := by rw [List.length_take, HN.out]; omega
      have HC := Lib.hid (fun W (hC : From wr W) => refHas_any (some ⟨g, o, none⟩) c (l.take j) x B W (by rw [htl]; omega) (Nat.le_trans hB (Nat.le_trans HW.out.size hC.below.size)) ((hri.take encK_len j).below (hC.below.mono (Nat.le_trans hB HW.out.size))))
      rw [htl] at HC
      have hs1 : ∀ W, (Instr.slice 27 (.slice (some ⟨g, o, none⟩) n c) none (some (.int .i64 (j : Int))) none).run Try.prog W = .ok (.slice (some ⟨g, o, none⟩) j c) W := fun W => tyK.slice_to W _ n c j (by omega)
      have HS1 := Lib.hid hs1
      clear hri htl hs1
      have d1 : (0 : Int) ≤ (j : Int) := by omega
      have d2 : (j : Int) < (n : Int) := by omega
      obtain ⟨q, hq⟩ : ∃ q, decide (x ∈ l.take j) = q := ⟨_, rfl⟩
      rw [hq] at HC
      have HQ := Lib.hid hq
      clear hq
      cases q
      · go_wp2_with fail
        refine wp_region_from (by kernel_rfl) (by kernel_rfl) ?_
        repeat (first
          | ((with_reducible refine at_qload 15 ?_); refine tyK.wpQuiet_load (by rfl) (.tmp 15) rfl g _ rfl x (fun W hC => (HX.out.below hC.below hgw).cast (by omega)) ?_; simp only [encK_bytes, Act.put, List.setIfInBounds_toArray, List.set_cons_succ, List.set_cons_zero])
          | ((with_reducible refine at_qslice 12 ?_); refine wpQuiet_of_run (by rfl) (.slice (some ⟨g, o, none⟩) j c) (fun W _ => by have hs1 := HS1.out; go_simp; try with_reducible rfl) ?_; simp only [Act.put, List.setIfInBounds_toArray, List.set_cons_succ, List.set_cons_zero])
          | (go_big_quiet_want; go_big_quiet_op; refine ⟨_, fun _ _ => by with_reducible rfl, ?_⟩; go_big_quiet_on)
          | go_big_quiet_step ((intro hC; go_at_call 23; with_reducible exact (HC.out _ hC).mono fun _ _ h => ⟨h.1, hC.call h.2⟩)))
        refine wpQuiet_nil ?_
        intro w9 hC
        go_wp2_with fail
        go_roundw
        case rel => exact ⟨j + 1, by go_num, by omega, Lib.hid (by rw [HSN.out]; exact (nodup_snoc _ _).2 ⟨HI.out, of_decide_eq_false HQ.out⟩), Lib.hid (HW.out.trans (hC.below.mono HW.out.size))⟩
        case measure => simp [intOf]; omega
      · go_wp2_with fail
        refine wp_region_from (by kernel_rfl) (by kernel_rfl) ?_
        repeat (first
          | ((with_reducible refine at_qload 15 ?_); refine tyK.wpQuiet_load (by rfl) (.tmp 15) rfl g _ rfl x (fun W hC => (HX.out.below hC.below hgw).cast (by omega)) ?_; simp only [encK_bytes, Act.put, List.setIfInBounds_toArray, List.set_cons_succ, List.set_cons_zero])
          | ((with_reducible refine at_qslice 12 ?_); refine wpQuiet_of_run (by rfl) (.slice (some ⟨g, o, none⟩) j c) (fun W _ => by have hs1 := HS1.out; go_simp; try with_reducible rfl) ?_; simp only [Act.put, List.setIfInBounds_toArray, List.set_cons_succ, List.set_cons_zero])
          | (go_big_quiet_want; go_big_quiet_op; refine ⟨_, fun _ _ => by with_reducible rfl, ?_⟩; go_big_quiet_on)
          | go_big_quiet_step ((intro hC; go_at_call 23; with_reducible exact (HC.out _ hC).mono fun _ _ h => ⟨h.1, hC.call h.2⟩)))
        refine wpQuiet_nil ?_
        intro w9 hC
        go_wp2_with fail
        go_ret
        refine ⟨?_, HW.out.trans (hC.below.mono HW.out.size)⟩
        have hnd : ¬ l.Nodup := fun hd => by
          have h1 : (l.take (j + 1)).Nodup := hd.sublist (List.take_sublist _ _)
          rw [HSN.out] at h1
          exact ((nodup_snoc _ _).1 h1).2 (of_decide_eq_true HQ.out)
        rw [← HR.out, decide_eq_false hnd]
        rfl
    · have hje : j = n := by omega
      subst hje
      go_wp2_with fail
      go_ret
      refine ⟨?_, HW.out⟩
      have hd : l.Nodup := by have := HI.out; rwa [List.take_of_length_le (by rw [HN.out]; exact Nat.le_refl _)] at this
      rw [← HR.out, decide_eq_true hd]
      rfl
end Go.Proofs.Ytimhophelecmjaa
