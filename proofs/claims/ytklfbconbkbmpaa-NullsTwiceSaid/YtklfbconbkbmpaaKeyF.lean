/- The reference's put, Sort, Insert, Remove, Distinct, Meet (made by genRef.py). -/
import Derived.Test.YtklfbconbkbmpaaKeyN
import Derived.Test.YtklfbconbkbmpaaKeyI
import Derived.Test.YtklfbconbkbmpaaGenA
namespace Go.Proofs.Ytklfbconbkbmpaa
open Go.RowKit Go.Sort
theorem zcK : ((Try.prog.info? 29).bind (·.zero)).map (·.cells.size) = some 32 := by kernel_rfl
theorem zbK : (Try.prog.info? 29).map (·.bytes) = some 32 := by kernel_rfl
theorem putK_split (k : K32) : ∀ (a b : List K32), (∀ x ∈ a, ltK k x = false) → (∀ x, b.head? = some x → ltK k x = true) → putK k (a ++ b) = a ++ k :: b
  | [], [], _, _ => rfl
  | [], y :: b, _, h => by show putK k (y :: b) = _; unfold putK; rw [if_pos (h y rfl)]; rfl
  | y :: a, b, ha, h => by
    show putK k (y :: (a ++ b)) = _
    unfold putK
    rw [if_neg (by rw [ha y (by simp)]; simp), putK_split k a b (fun x hx => ha x (by simp [hx])) h]
    rfl
theorem take_snoc (l : List K32) (j : Nat) (hj : j < l.length) : l.take (j + 1) = l.take j ++ [l[j]] := by rw [List.take_add_one, List.getElem?_eq_getElem hj]; rfl
theorem nodup_snoc (l : List K32) (x : K32) : (l ++ [x]).Nodup ↔ l.Nodup ∧ x ∉ l := by
  rw [List.nodup_append]
  constructor
  · rintro ⟨h1, _, h3⟩; exact ⟨h1, fun hm => h3 x hm x (by simp) rfl⟩
  · rintro ⟨h1, h2⟩; exact ⟨h1, by simp, fun a ha b hb e => by simp at hb; subst hb; subst e; exact h2 ha⟩
theorem own_grown {w w' : World} {base : Nat} {e : TypeId} {size n : Nat} {v : Value} {xs : List Value} (h : w.ownsRow base e size v n xs) (hg : w.grownBy w' v.ownBlock) (hB : base ≤ w.heap.size) : Below base w w' := (Below.refl _ _).grown hg hB (own_base h)
theorem own_alloc {w : World} {base : Nat} {e : TypeId} {size n : Nat} {v : Value} {xs : List Value} (h : w.ownsRow base e size v n xs) (o : Obj) : (w.alloc o).ownsRow base e size v n xs := ⟨h.1, h.2.imp id fun ⟨g, cap, cur, h1, h2, h3, h4⟩ => ⟨g, cap, cur, h1, h2, (Below.heap_alloc w o g (by
    rcases Nat.lt_or_ge g w.heap.size with hlt | hge
    · exact hlt
    · rw [Array.getElem?_eq_none hge] at h3; cases h3)).trans h3, h4⟩⟩
theorem own_from' {w W : World} {base : Nat} {e : TypeId} {size n : Nat} {v : Value} {xs : List Value} (h : w.ownsRow base e size v n xs) (hb : Below w.heap.size w W) : W.ownsRow base e size v n xs :=
  ⟨h.1, h.2.imp id fun ⟨g, cap, cur, h1, h2, h3, h4⟩ => ⟨g, cap, cur, h1, h2, (hb.block g (by
    rcases Nat.lt_or_ge g w.heap.size with hlt | hge
    · exact hlt
    · rw [Array.getElem?_eq_none hge] at h3; cases h3)).trans h3, h4⟩⟩
theorem own_congr {w : World} {base : Nat} {e : TypeId} {size : Nat} {v : Value} {l m : List K32} (h : w.ownsRow base e size v l.length (cellsOf encK l)) (e' : l = m) : w.ownsRow base e size v m.length (cellsOf encK m) := e' ▸ h
theorem own_nil {w : World} {g : Nat} {base : Nat} (hb : Blk w g 29 #[]) (hg : base ≤ g) : w.ownsRow base 29 32 (.slice (some ⟨g, 0, none⟩) 0 0) ([] : List K32).length (cellsOf encK []) :=
  ⟨rfl, .inr ⟨g, 0, #[], rfl, hg, hb, Nat.le_refl _, Nat.zero_le _, rfl, rfl⟩⟩
set_option maxRecDepth 20000 in
set_option maxHeartbeats 4000000 in
theorem put_any (A : Option Addr) (c : Nat) (l : List K32) (k : K32) (B : Nat) (hl : l.length ≤ 100000) (w : World) (hB : B ≤ w.heap.size) (h : RowIn encK 32 w B A c l) :
    Calls Try.prog 29 #[.slice A l.length c, .agg (bytesA k.1)] w fun e w' => ∃ v, e = .returned v ∧ w'.ownsRow w.heap.size 29 32 v (putK k l).length (cellsOf encK (putK k l)) ∧ Below w.heap.size w w' := by
  have HOR := Lib.hid (fun W (hW : Below w.heap.size w W) => h.below (w' := W) (hW.mono hB))
  have K0 := Lib.hid ((Blk.new w 29 (bytesA k.1)).alloc (.cells #[] 29))
  have B0 := Lib.hid (show Below w.heap.size w ((w.alloc (.cells (bytesA k.1) 29)).alloc (.cells #[] 29)) from ((Below.refl _ _).alloc (Nat.le_refl _) _).alloc (by simp) _)
  have HO0 := Lib.hid (own_nil (base := (w.heap.size + 1)) (blk_new (w := w.alloc (.cells (bytesA k.1) 29)) 29 #[] (g := w.heap.size + 1) (by simp)) (by omega))
  have HS1 := Lib.hid (show (w.heap.size + 1) ≤ ((w.alloc (.cells (bytesA k.1) 29)).alloc (.cells #[] 29)).heap.size by simp)
  clear h
  obtain ⟨r, hr⟩ : ∃ r, putK k l = r := ⟨_, rfl⟩
  rw [hr]
  have HR := Lib.hid hr
  clear hr
  obtain ⟨n, hn⟩ : ∃ n, l.length = n := ⟨_, rfl⟩
  rw [hn] at hl ⊢
  have HN := Lib.hid hn
  clear hn
  go_enter Try.func29, Try.ntmps29
  go_wp2_with fail
  generalize (w.alloc (.cells (bytesA k.1) 29)).alloc (.cells #[] 29) = w1 at K0 B0 HO0 HS1 ⊢
  go_loopw [5, 6, 7] (fun so sd si wr => ∃ (j : Nat) (dn : Bool) (a b : List K32), si = .int .i64 j ∧ sd = .bool dn ∧ j ≤ n ∧ Hid (l.take j = a ++ b ∧ (∀ x ∈ a, ltK k x = false) ∧ (∀ x, b.head? = some x → ltK k x = true) ∧ (dn = false → b = []) ∧ (dn = true → b ≠ [])) ∧
    Hid (wr.ownsRow (w.heap.size + 1) 29 32 so (a ++ (if dn then k :: b else b)).length (cellsOf encK (a ++ (if dn then k :: b else b)))) ∧ Hid (Below (w.heap.size + 1) w1 wr)) (fun _ _ i _ => n - (intOf i).toNat)
  case atStart => exact ⟨0, false, [], [], rfl, rfl, by omega, Lib.hid ⟨by simp, by simp, by simp, by simp, by simp⟩, Lib.hid HO0.out, Lib.hid (Below.refl _ _)⟩
  case round =>
    clear HO0
    obtain ⟨j, dn, a, b, rfl, rfl, hj, HI, HO, HW⟩ := hrel
    by_cases hlt : j < n
    · have HAB := Lib.hid (show a.length + b.length = j by rw [← List.length_append, ← HI.out.1, List.length_take, HN.out]; omega)
      have hjl : j < l.length := by rw [HN.out]; exact hlt
      have HSN := Lib.hid (take_snoc l j hjl)
      obtain ⟨g, o, rfl, hg, hc⟩ := (HOR.out w1 B0.out).cells (by intro e; subst e; simp at hjl)
      have HX := Lib.hid (hc.at encK_len hjl)
      clear hc
      have hgw0 : g < w.heap.size := by omega
      obtain ⟨x, hx⟩ : ∃ x, l[j]'hjl = x := ⟨_, rfl⟩
      rw [hx] at HX HSN
      clear hx
      have d1 : (0 : Int) ≤ (j : Int) := by omega
      have d2 : (j : Int) < (n : Int) := by omega
      cases dn
      · have hb0 : b = [] := HI.out.2.2.2.1 rfl
        subst hb0
        have HL := Lib.hid (fun W => refLess_any k x W)
        obtain ⟨q, hq⟩ : ∃ q, ltK k x = q := ⟨_, rfl⟩
        rw [hq] at HL
        have HQ := Lib.hid hq
        clear hq
        simp only [Bool.false_eq_true, if_false, List.append_nil] at HO
        cases q
        · go_wp2_with fail
          refine wp_region_from (by kernel_rfl) (by kernel_rfl) ?_
          repeat (first
            | go_big_quiet_skip
            | ((with_reducible refine at_qload 3 ?_); refine wpQuiet_load_row (by rfl) 29 (.tmp 3) rfl w.heap.size rfl 29 (bytesA k.1) _ (fun _ hC => below_blk hC.below (below_blk HW.out K0.out (by omega)) (by have := HW.out.size; have := HS1.out; omega)) Try.underlying29 rfl (szK k) ?_; simp only [Act.put, List.setIfInBounds_toArray, List.set_cons_succ, List.set_cons_zero])
            | ((with_reducible refine at_qload 21 ?_); refine tyK.wpQuiet_load (by rfl) (.tmp 21) rfl g _ rfl x (fun W hC => (((HX.out.below HW.out (by omega))).below hC.below (by have := HW.out.size; have := HS1.out; omega)).cast (by omega)) ?_; simp only [encK_bytes, Act.put, List.setIfInBounds_toArray, List.set_cons_succ, List.set_cons_zero])
            | (go_big_quiet_want; go_big_quiet_op; refine ⟨_, fun _ _ => by with_reducible rfl, ?_⟩; go_big_quiet_on)
            | go_big_quiet_step ((intro hC; go_at_call 36; with_reducible exact (HL.out _).mono fun _ _ h => ⟨h.1, hC.call h.2⟩)))
          refine wpQuiet_nil ?_
          intro w9 hC
          have O9 := Lib.hid (own_from' HO.out hC.below)
          have B9 := Lib.hid (HW.out.trans (hC.below.mono (Nat.le_trans HS1.out HW.out.size)))
          clear hC
          go_wp2_with (first
            | ((with_reducible refine at_loadg 32 ?_); refine tyK.wpList_load (by rfl) (.tmp 32) rfl g _ rfl x ((HX.out.below B9.out (by omega)).cast (by omega)) ?_; simp only [encK_bytes])
            | ((with_reducible refine at_buildSlice 34 ?_); refine tyK.wpList_build rfl zeroK 1 _ rfl [x] rfl (by omega) (by omega) (by kernel_rfl) ?_)
            | ((with_reducible refine at_appendg 35 29 34 ?_); refine tyK.wpList_append1 rfl zcK 32 zbK (by omega) (.tmp 29) (.tmp 34) rfl (w.heap.size + 1) _ (a) rfl (own_alloc O9.out _) _ 1 x rfl (Blk.new _ _ _) (by have := HAB.out; simp at this ⊢; omega) (by have := B9.out.size; have := HS1.out; simp; omega) ?_; intro v5 w5 p5 g5; have O5 := Lib.hid p5; have B5 := Lib.hid ((B9.out.alloc (Nat.le_trans HS1.out B9.out.size) _).trans (own_grown (own_alloc O9.out _) g5 (by have := B9.out.size; have := HS1.out; simp; omega))); clear p5 g5))
          go_roundw
          case rel =>
            refine ⟨j + 1, false, a ++ [x], [], by go_num, rfl, by omega, Lib.hid ⟨by rw [HSN.out, HI.out.1]; simp, fun y hy => ?_, by simp, by simp, by simp⟩, Lib.hid ?_, B5⟩
            · rcases List.mem_append.1 hy with h1 | h1
              · exact HI.out.2.1 y h1
              · simp at h1; subst h1; exact HQ.out
            · exact own_congr O5.out (by simp)
          case measure => simp [intOf]; omega
        · go_wp2_with fail
          refine wp_region_from (by kernel_rfl) (by kernel_rfl) ?_
          repeat (first
            | go_big_quiet_skip
            | ((with_reducible refine at_qload 3 ?_); refine wpQuiet_load_row (by rfl) 29 (.tmp 3) rfl w.heap.size rfl 29 (bytesA k.1) _ (fun _ hC => below_blk hC.below (below_blk HW.out K0.out (by omega)) (by have := HW.out.size; have := HS1.out; omega)) Try.underlying29 rfl (szK k) ?_; simp only [Act.put, List.setIfInBounds_toArray, List.set_cons_succ, List.set_cons_zero])
            | ((with_reducible refine at_qload 21 ?_); refine tyK.wpQuiet_load (by rfl) (.tmp 21) rfl g _ rfl x (fun W hC => (((HX.out.below HW.out (by omega))).below hC.below (by have := HW.out.size; have := HS1.out; omega)).cast (by omega)) ?_; simp only [encK_bytes, Act.put, List.setIfInBounds_toArray, List.set_cons_succ, List.set_cons_zero])
            | (go_big_quiet_want; go_big_quiet_op; refine ⟨_, fun _ _ => by with_reducible rfl, ?_⟩; go_big_quiet_on)
            | go_big_quiet_step ((intro hC; go_at_call 36; with_reducible exact (HL.out _).mono fun _ _ h => ⟨h.1, hC.call h.2⟩)))
          refine wpQuiet_nil ?_
          intro w9 hC
          have O9 := Lib.hid (own_from' HO.out hC.below)
          have B9 := Lib.hid (HW.out.trans (hC.below.mono (Nat.le_trans HS1.out HW.out.size)))
          clear hC
          go_wp2_with (first
            | ((with_reducible refine at_loadg 3 ?_); refine wpList_load_rowg (by rfl) 29 (.tmp 3) rfl w.heap.size rfl 29 (bytesA k.1) _ (below_blk B9.out K0.out (by omega)) Try.underlying29 rfl (szK k) ?_)
            | ((with_reducible refine at_buildSlice 27 ?_); refine tyK.wpList_build rfl zeroK 1 _ rfl [k] rfl (by omega) (by omega) (by kernel_rfl) ?_)
            | ((with_reducible refine at_appendg 28 25 27 ?_); refine tyK.wpList_append1 rfl zcK 32 zbK (by omega) (.tmp 25) (.tmp 27) rfl (w.heap.size + 1) _ (a) rfl (own_alloc O9.out _) _ 1 k rfl (Blk.new _ _ _) (by have := HAB.out; simp at this ⊢; omega) (by have := B9.out.size; have := HS1.out; simp; omega) ?_; intro v7 w7 p7 g7; have O7 := Lib.hid p7; have B7 := Lib.hid ((B9.out.alloc (Nat.le_trans HS1.out B9.out.size) _).trans (own_grown (own_alloc O9.out _) g7 (by have := B9.out.size; have := HS1.out; simp; omega))); clear p7 g7)
            | ((with_reducible refine at_loadg 32 ?_); refine tyK.wpList_load (by rfl) (.tmp 32) rfl g _ rfl x ((HX.out.below B7.out (by omega)).cast (by omega)) ?_; simp only [encK_bytes])
            | ((with_reducible refine at_buildSlice 34 ?_); refine tyK.wpList_build rfl zeroK 1 _ rfl [x] rfl (by omega) (by omega) (by kernel_rfl) ?_)
            | ((with_reducible refine at_appendg 35 29 34 ?_); refine tyK.wpList_append1 rfl zcK 32 zbK (by omega) (.tmp 29) (.tmp 34) rfl (w.heap.size + 1) _ (a ++ [k]) rfl (own_alloc O7.out _) _ 1 x rfl (Blk.new _ _ _) (by have := HAB.out; simp at this ⊢; omega) (by have := B7.out.size; have := HS1.out; simp; omega) ?_; intro v5 w5 p5 g5; have O5 := Lib.hid p5; have B5 := Lib.hid ((B7.out.alloc (Nat.le_trans HS1.out B7.out.size) _).trans (own_grown (own_alloc O7.out _) g5 (by have := B7.out.size; have := HS1.out; simp; omega))); clear p5 g5))
          go_roundw
          case rel =>
            refine ⟨j + 1, true, a, [x], by go_num, rfl, by omega, Lib.hid ⟨by rw [HSN.out, HI.out.1]; simp, HI.out.2.1, fun y hy => ?_, by simp, by simp⟩, Lib.hid ?_, B5⟩
            · simp at hy; subst hy; exact HQ.out
            · exact own_congr O5.out (by simp)
          case measure => simp [intOf]; omega
      · simp only [if_true] at HO
        go_wp2_with fail
        refine wp_region_from (by kernel_rfl) (by kernel_rfl) ?_
        repeat (first
          | go_big_quiet_skip
          | (go_big_quiet_want; go_big_quiet_op; refine ⟨_, fun _ _ => by with_reducible rfl, ?_⟩; go_big_quiet_on)
          | go_big_quiet_step ((fail)))
        refine wpQuiet_nil ?_
        intro w9 hC
        have O9 := Lib.hid (own_from' HO.out hC.below)
        have B9 := Lib.hid (HW.out.trans (hC.below.mono (Nat.le_trans HS1.out HW.out.size)))
        clear hC
        go_wp2_with (first
          | ((with_reducible refine at_loadg 32 ?_); refine tyK.wpList_load (by rfl) (.tmp 32) rfl g _ rfl x ((HX.out.below B9.out (by omega)).cast (by omega)) ?_; simp only [encK_bytes])
          | ((with_reducible refine at_buildSlice 34 ?_); refine tyK.wpList_build rfl zeroK 1 _ rfl [x] rfl (by omega) (by omega) (by kernel_rfl) ?_)
          | ((with_reducible refine at_appendg 35 29 34 ?_); refine tyK.wpList_append1 rfl zcK 32 zbK (by omega) (.tmp 29) (.tmp 34) rfl (w.heap.size + 1) _ (a ++ k :: b) rfl (own_alloc O9.out _) _ 1 x rfl (Blk.new _ _ _) (by have := HAB.out; simp at this ⊢; omega) (by have := B9.out.size; have := HS1.out; simp; omega) ?_; intro v5 w5 p5 g5; have O5 := Lib.hid p5; have B5 := Lib.hid ((B9.out.alloc (Nat.le_trans HS1.out B9.out.size) _).trans (own_grown (own_alloc O9.out _) g5 (by have := B9.out.size; have := HS1.out; simp; omega))); clear p5 g5))
        go_roundw
        case rel =>
          refine ⟨j + 1, true, a, b ++ [x], by go_num, rfl, by omega, Lib.hid ⟨by rw [HSN.out, HI.out.1]; simp, HI.out.2.1, fun y hy => ?_, by simp, by simp⟩, Lib.hid ?_, B5⟩
          · obtain ⟨z, t, rfl⟩ := List.exists_cons_of_ne_nil (HI.out.2.2.2.2 (by simp))
            exact HI.out.2.2.1 y (by simpa using hy)
          · exact own_congr O5.out (by simp)
        case measure => simp [intOf]; omega
    · have hje : j = n := by omega
      subst hje
      have hla : l = a ++ b := by rw [← HI.out.1, List.take_of_length_le (by rw [HN.out]; exact Nat.le_refl _)]
      have hpr : r = a ++ k :: b := by rw [← HR.out, hla]; exact putK_split k a b HI.out.2.1 HI.out.2.2.1
      have HPR := Lib.hid hpr
      clear hpr hla
      cases dn
      · have hb0 : b = [] := HI.out.2.2.2.1 rfl
        subst hb0
        simp only [Bool.false_eq_true, if_false, List.append_nil] at HO
        have HAL := Lib.hid (show a.length = j by have := HI.out.1; rw [List.append_nil] at this; rw [← this, List.length_take, HN.out]; omega)
        go_wp2_with (first
          | ((with_reducible refine at_loadg 3 ?_); refine wpList_load_rowg (by rfl) 29 (.tmp 3) rfl w.heap.size rfl 29 (bytesA k.1) _ (below_blk HW.out K0.out (by omega)) Try.underlying29 rfl (szK k) ?_)
          | ((with_reducible refine at_buildSlice 40 ?_); refine tyK.wpList_build rfl zeroK 1 _ rfl [k] rfl (by omega) (by omega) (by kernel_rfl) ?_)
          | ((with_reducible refine at_appendg 41 38 40 ?_); refine tyK.wpList_append1 rfl zcK 32 zbK (by omega) (.tmp 38) (.tmp 40) rfl (w.heap.size + 1) _ (a) rfl (own_alloc HO.out _) _ 1 k rfl (Blk.new _ _ _) (by have := HAL.out; omega) (by have := HW.out.size; have := HS1.out; simp; omega) ?_; intro v5 w5 p5 g5; have O5 := Lib.hid p5; have B5 := Lib.hid ((HW.out.alloc (Nat.le_trans HS1.out HW.out.size) _).trans (own_grown (own_alloc HO.out _) g5 (by have := HW.out.size; have := HS1.out; simp; omega))); clear p5 g5))
        go_ret
        exact ⟨_, rfl, own_congr (own_mono O5.out (by omega)) HPR.out.symm, B0.out.trans (B5.out.mono (by omega))⟩
      · simp only [if_true] at HO
        go_wp2_with fail
        go_ret
        exact ⟨_, rfl, own_congr (own_mono HO.out (by omega)) HPR.out.symm, B0.out.trans (HW.out.mono (by omega))⟩
theorem erase_split (k : K32) (a b : List K32) (ha : ∀ x ∈ a, x ≠ k) : (a ++ k :: b).erase k = a ++ b := by
  induction a with
  | nil => simp
  | cons y a ih =>
    have hy : y ≠ k := ha y (by simp)
    show (y :: (a ++ k :: b)).erase k = _
    rw [List.erase_cons_tail (by rw [beq_eq_false_iff_ne.mpr hy]; simp), ih (fun x hx => ha x (by simp [hx]))]
    rfl
set_option maxRecDepth 20000 in
set_option maxHeartbeats 4000000 in
theorem refRemove_any (A : Option Addr) (c : Nat) (l : List K32) (k : K32) (B : Nat) (hl : l.length ≤ 100000) (w : World) (hB : B ≤ w.heap.size) (h : RowIn encK 32 w B A c l) :
    Calls Try.prog 25 #[.slice A l.length c, .agg (bytesA k.1)] w fun e w' => ∃ v, e = .returned (.tuple #[v, .bool (decide (k ∈ l))]) ∧ w'.ownsRow w.heap.size 29 32 v (l.erase k).length (cellsOf encK (l.erase k)) ∧ Below w.heap.size w w' := by
  have HOR := Lib.hid (fun W (hW : Below w.heap.size w W) => h.below (w' := W) (hW.mono hB))
  have K0 := Lib.hid ((Blk.new w 29 (bytesA k.1)).alloc (.cells #[] 29))
  have B0 := Lib.hid (show Below w.heap.size w ((w.alloc (.cells (bytesA k.1) 29)).alloc (.cells #[] 29)) from ((Below.refl _ _).alloc (Nat.le_refl _) _).alloc (by simp) _)
  have HO0 := Lib.hid (own_nil (base := (w.heap.size + 1)) (blk_new (w := w.alloc (.cells (bytesA k.1) 29)) 29 #[] (g := w.heap.size + 1) (by simp)) (by omega))
  have HS1 := Lib.hid (show (w.heap.size + 1) ≤ ((w.alloc (.cells (bytesA k.1) 29)).alloc (.cells #[] 29)).heap.size by simp)
  clear h
  obtain ⟨r, hr⟩ : ∃ r, l.erase k = r := ⟨_, rfl⟩
  rw [hr]
  have HR := Lib.hid hr
  clear hr
  obtain ⟨bb, hbb⟩ : ∃ bb, decide (k ∈ l) = bb := ⟨_, rfl⟩
  rw [hbb]
  have HBB := Lib.hid hbb
  clear hbb
  obtain ⟨n, hn⟩ : ∃ n, l.length = n := ⟨_, rfl⟩
  rw [hn] at hl ⊢
  have HN := Lib.hid hn
  clear hn
  go_enter Try.func25, Try.ntmps25
  go_wp2_with fail
  generalize (w.alloc (.cells (bytesA k.1) 29)).alloc (.cells #[] 29) = w1 at K0 B0 HO0 HS1 ⊢
  go_loopw [6, 7, 8] (fun so sd si wr => ∃ (j : Nat) (dn : Bool) (a b : List K32), si = .int .i64 j ∧ sd = .bool dn ∧ j ≤ n ∧ Hid (l.take j = (if dn then a ++ k :: b else a ++ b) ∧ (∀ x ∈ a, x ≠ k) ∧ (dn = false → b = [])) ∧
    Hid (wr.ownsRow (w.heap.size + 1) 29 32 so (a ++ b).length (cellsOf encK (a ++ b))) ∧ Hid (Below (w.heap.size + 1) w1 wr)) (fun _ _ i _ => n - (intOf i).toNat)
  case atStart => exact ⟨0, false, [], [], rfl, rfl, by omega, Lib.hid ⟨by simp, by simp, by simp⟩, Lib.hid HO0.out, Lib.hid (Below.refl _ _)⟩
  case round =>
    clear HO0
    obtain ⟨j, dn, a, b, rfl, rfl, hj, HI, HO, HW⟩ := hrel
    by_cases hlt : j < n
    · have HAB := Lib.hid (show (a ++ b).length ≤ j by
        have h1 : (l.take j).length = j := by rw [List.length_take, HN.out]; omega
        have h2 := HI.out.1
        cases dn
        · simp only [Bool.false_eq_true, if_false] at h2; rw [← h2, h1]; exact Nat.le_refl _
        · simp only [if_true] at h2; rw [h2] at h1; simp at h1 ⊢; omega)
      have hjl : j < l.length := by rw [HN.out]; exact hlt
      have HSN := Lib.hid (take_snoc l j hjl)
      obtain ⟨g, o, rfl, hg, hc⟩ := (HOR.out w1 B0.out).cells (by intro e; subst e; simp at hjl)
      have HX := Lib.hid (hc.at encK_len hjl)
      clear hc
      have hgw0 : g < w.heap.size := by omega
      obtain ⟨x, hx⟩ : ∃ x, l[j]'hjl = x := ⟨_, rfl⟩
      rw [hx] at HX HSN
      clear hx
      have d1 : (0 : Int) ≤ (j : Int) := by omega
      have d2 : (j : Int) < (n : Int) := by omega
      cases dn
      · have hb0 : b = [] := HI.out.2.2 rfl
        subst hb0
        obtain ⟨q, hq⟩ : ∃ q, decide (x = k) = q := ⟨_, rfl⟩
        have HE := Lib.hid (eqK_is hq)
        have HQ := Lib.hid hq
        clear hq
        simp only [List.append_nil] at HO HAB
        have HI1 := Lib.hid (show l.take j = a by have := HI.out.1; simp only [Bool.false_eq_true, if_false, List.append_nil] at this; exact this)
        cases q
        · go_wp2_with fail
          refine wp_region_from (by kernel_rfl) (by kernel_rfl) ?_
          repeat (first
            | go_big_quiet_skip
            | ((with_reducible refine at_qload 21 ?_); refine tyK.wpQuiet_load (by rfl) (.tmp 21) rfl g _ rfl x (fun W hC => (((HX.out.below HW.out (by omega))).below hC.below (by have := HW.out.size; have := HS1.out; omega)).cast (by omega)) ?_; simp only [encK_bytes, Act.put, List.setIfInBounds_toArray, List.set_cons_succ, List.set_cons_zero])
            | ((with_reducible refine at_qload 3 ?_); refine wpQuiet_load_row (by rfl) 29 (.tmp 3) rfl w.heap.size rfl 29 (bytesA k.1) _ (fun _ hC => below_blk hC.below (below_blk HW.out K0.out (by omega)) (by have := HW.out.size; have := HS1.out; omega)) Try.underlying29 rfl (szK k) ?_; simp only [Act.put, List.setIfInBounds_toArray, List.set_cons_succ, List.set_cons_zero])
            | ((with_reducible refine at_qeql 22 23 ?_); refine wpQuiet_eql_row (by rfl) 29 _ (.tmp 22) (.tmp 23) rfl (bytesA x.1) (bytesA k.1) rfl rfl (by kernel_rfl) false HE.out ?_; simp only [Act.put, List.setIfInBounds_toArray, List.set_cons_succ, List.set_cons_zero])
            | (go_big_quiet_want; go_big_quiet_op; refine ⟨_, fun _ _ => by with_reducible rfl, ?_⟩; go_big_quiet_on)
            | go_big_quiet_step ((fail)))
          refine wpQuiet_nil ?_
          intro w9 hC
          have O9 := Lib.hid (own_from' HO.out hC.below)
          have B9 := Lib.hid (HW.out.trans (hC.below.mono (Nat.le_trans HS1.out HW.out.size)))
          clear hC
          go_wp2_with (first
            | ((with_reducible refine at_loadg 29 ?_); refine tyK.wpList_load (by rfl) (.tmp 29) rfl g _ rfl x ((HX.out.below B9.out (by omega)).cast (by omega)) ?_; simp only [encK_bytes])
            | ((with_reducible refine at_buildSlice 31 ?_); refine tyK.wpList_build rfl zeroK 1 _ rfl [x] rfl (by omega) (by omega) (by kernel_rfl) ?_)
            | ((with_reducible refine at_appendg 32 26 31 ?_); refine tyK.wpList_append1 rfl zcK 32 zbK (by omega) (.tmp 26) (.tmp 31) rfl (w.heap.size + 1) _ (a) rfl (own_alloc O9.out _) _ 1 x rfl (Blk.new _ _ _) (by have := HAB.out; omega) (by have := B9.out.size; have := HS1.out; simp; omega) ?_; intro v5 w5 p5 g5; have O5 := Lib.hid p5; have B5 := Lib.hid ((B9.out.alloc (Nat.le_trans HS1.out B9.out.size) _).trans (own_grown (own_alloc O9.out _) g5 (by have := B9.out.size; have := HS1.out; simp; omega))); clear p5 g5))
          go_roundw
          case rel =>
            refine ⟨j + 1, false, a ++ [x], [], by go_num, rfl, by omega, Lib.hid ⟨by rw [HSN.out, HI1.out]; simp, fun y hy => ?_, by simp⟩, Lib.hid ?_, B5⟩
            · rcases List.mem_append.1 hy with h1 | h1
              · exact HI.out.2.1 y h1
              · simp at h1; subst h1; exact of_decide_eq_false HQ.out
            · exact own_congr O5.out (by simp)
          case measure => simp [intOf]; omega
        · go_wp2_with fail
          refine wp_region_from (by kernel_rfl) (by kernel_rfl) ?_
          repeat (first
            | go_big_quiet_skip
            | ((with_reducible refine at_qload 21 ?_); refine tyK.wpQuiet_load (by rfl) (.tmp 21) rfl g _ rfl x (fun W hC => (((HX.out.below HW.out (by omega))).below hC.below (by have := HW.out.size; have := HS1.out; omega)).cast (by omega)) ?_; simp only [encK_bytes, Act.put, List.setIfInBounds_toArray, List.set_cons_succ, List.set_cons_zero])
            | ((with_reducible refine at_qload 3 ?_); refine wpQuiet_load_row (by rfl) 29 (.tmp 3) rfl w.heap.size rfl 29 (bytesA k.1) _ (fun _ hC => below_blk hC.below (below_blk HW.out K0.out (by omega)) (by have := HW.out.size; have := HS1.out; omega)) Try.underlying29 rfl (szK k) ?_; simp only [Act.put, List.setIfInBounds_toArray, List.set_cons_succ, List.set_cons_zero])
            | ((with_reducible refine at_qeql 22 23 ?_); refine wpQuiet_eql_row (by rfl) 29 _ (.tmp 22) (.tmp 23) rfl (bytesA x.1) (bytesA k.1) rfl rfl (by kernel_rfl) true HE.out ?_; simp only [Act.put, List.setIfInBounds_toArray, List.set_cons_succ, List.set_cons_zero])
            | (go_big_quiet_want; go_big_quiet_op; refine ⟨_, fun _ _ => by with_reducible rfl, ?_⟩; go_big_quiet_on)
            | go_big_quiet_step ((fail)))
          refine wpQuiet_nil ?_
          intro w9 hC
          have O9 := Lib.hid (own_from' HO.out hC.below)
          have B9 := Lib.hid (HW.out.trans (hC.below.mono (Nat.le_trans HS1.out HW.out.size)))
          clear hC
          go_wp2_with fail
          go_roundw
          case rel =>
            exact ⟨j + 1, true, a, [], by go_num, rfl, by omega, Lib.hid ⟨by rw [HSN.out, HI1.out, of_decide_eq_true HQ.out]; simp, HI.out.2.1, by simp⟩, Lib.hid (own_congr O9.out (by simp)), B9⟩
          case measure => simp [intOf]; omega
      · have HI1 := Lib.hid (show l.take j = a ++ k :: b by have := HI.out.1; simp only [if_true] at this; exact this)
        go_wp2_with fail
        refine wp_region_from (by kernel_rfl) (by kernel_rfl) ?_
        repeat (first
          | go_big_quiet_skip
          | (go_big_quiet_want; go_big_quiet_op; refine ⟨_, fun _ _ => by with_reducible rfl, ?_⟩; go_big_quiet_on)
          | go_big_quiet_step ((fail)))
        refine wpQuiet_nil ?_
        intro w9 hC
        have O9 := Lib.hid (own_from' HO.out hC.below)
        have B9 := Lib.hid (HW.out.trans (hC.below.mono (Nat.le_trans HS1.out HW.out.size)))
        clear hC
        go_wp2_with (first
          | ((with_reducible refine at_loadg 29 ?_); refine tyK.wpList_load (by rfl) (.tmp 29) rfl g _ rfl x ((HX.out.below B9.out (by omega)).cast (by omega)) ?_; simp only [encK_bytes])
          | ((with_reducible refine at_buildSlice 31 ?_); refine tyK.wpList_build rfl zeroK 1 _ rfl [x] rfl (by omega) (by omega) (by kernel_rfl) ?_)
          | ((with_reducible refine at_appendg 32 26 31 ?_); refine tyK.wpList_append1 rfl zcK 32 zbK (by omega) (.tmp 26) (.tmp 31) rfl (w.heap.size + 1) _ (a ++ b) rfl (own_alloc O9.out _) _ 1 x rfl (Blk.new _ _ _) (by have := HAB.out; omega) (by have := B9.out.size; have := HS1.out; simp; omega) ?_; intro v5 w5 p5 g5; have O5 := Lib.hid p5; have B5 := Lib.hid ((B9.out.alloc (Nat.le_trans HS1.out B9.out.size) _).trans (own_grown (own_alloc O9.out _) g5 (by have := B9.out.size; have := HS1.out; simp; omega))); clear p5 g5))
        go_roundw
        case rel =>
          exact ⟨j + 1, true, a, b ++ [x], by go_num, rfl, by omega, Lib.hid ⟨by rw [HSN.out, HI1.out]; simp, HI.out.2.1, by simp⟩, Lib.hid (own_congr O5.out (by simp)), B5⟩
        case measure => simp [intOf]; omega
    · have hje : j = n := by omega
      subst hje
      have hlj : l.take j = l := List.take_of_length_le (by rw [HN.out]; exact Nat.le_refl _)
      have HLJ := Lib.hid hlj
      clear hlj
      have hfin : r = a ++ b ∧ bb = dn := by
        have h2 := HI.out.1
        rw [HLJ.out] at h2
        cases dn
        · have hb0 : b = [] := HI.out.2.2 rfl
          simp only [Bool.false_eq_true, if_false] at h2
          have hnm : k ∉ l := by rw [h2, hb0, List.append_nil]; intro hm; exact HI.out.2.1 k hm rfl
          exact ⟨by rw [← HR.out, List.erase_of_not_mem hnm, h2], by rw [← HBB.out]; exact decide_eq_false hnm⟩
        · simp only [if_true] at h2
          exact ⟨by rw [← HR.out, h2]; exact erase_split k a b HI.out.2.1, by rw [← HBB.out]; exact decide_eq_true (by rw [h2]; simp)⟩
      obtain ⟨hf1, hf2⟩ := hfin
      have HF1 := Lib.hid hf1
      subst hf2
      clear hf1
      go_wp2_with fail
      go_ret2
      exact ⟨_, rfl, own_congr (own_mono HO.out (by omega)) HF1.out.symm, B0.out.trans (HW.out.mono (by omega))⟩
set_option maxRecDepth 20000 in
set_option maxHeartbeats 4000000 in
theorem refSort_any (A : Option Addr) (c : Nat) (l : List K32) (B : Nat) (hl : l.length ≤ 100000) (w : World) (hB : B ≤ w.heap.size) (h : RowIn encK 32 w B A c l) :
    Calls Try.prog 15 #[.slice A l.length c] w fun e w' => ∃ v, e = .returned v ∧ w'.ownsRow w.heap.size 29 32 v (sortK l).length (cellsOf encK (sortK l)) ∧ Below w.heap.size w w' := by
  have HOR := Lib.hid (fun W (hW : Below w.heap.size w W) => h.below (w' := W) (hW.mono hB))
  have B0 := Lib.hid (show Below w.heap.size w (w.alloc (.cells #[] 29)) from (Below.refl _ _).alloc (Nat.le_refl _) _)
  have HO0 := Lib.hid (own_nil (base := w.heap.size) (Blk.new w 29 #[]) (Nat.le_refl _))
  clear h
  obtain ⟨r, hr⟩ : ∃ r, sortK l = r := ⟨_, rfl⟩
  rw [hr]
  have HR := Lib.hid hr
  clear hr
  obtain ⟨n, hn⟩ : ∃ n, l.length = n := ⟨_, rfl⟩
  rw [hn] at hl ⊢
  have HN := Lib.hid hn
  clear hn
  go_enter Try.func15, Try.ntmps15
  go_wp2_with fail
  go_loopw [3, 4] (fun so si wr => ∃ j : Nat, si = .int .i64 j ∧ j ≤ n ∧ Hid (wr.ownsRow w.heap.size 29 32 so (sortK (l.take j)).length (cellsOf encK (sortK (l.take j)))) ∧ Hid (Below w.heap.size w wr)) (fun _ i _ => n - (intOf i).toNat)
  case atStart => exact ⟨0, rfl, by omega, Lib.hid (own_congr HO0.out (by rw [List.take_zero]; rfl)), Lib.hid B0.out⟩
  case round =>
    clear HO0 B0
    obtain ⟨j, rfl, hj, HO, HW⟩ := hrel
    by_cases hlt : j < n
    · have hjl : j < l.length := by rw [HN.out]; exact hlt
      have HSN := Lib.hid (show sortK (l.take (j + 1)) = putK l[j] (sortK (l.take j)) by rw [take_snoc l j hjl]; unfold sortK; rw [List.foldl_append]; rfl)
      obtain ⟨g, o, rfl, hg, hc⟩ := (HOR.out wr HW.out).cells (by intro e; subst e; simp at hjl)
      have HX := Lib.hid (hc.at encK_len hjl)
      clear hc
      obtain ⟨x, hx⟩ : ∃ x, l[j]'hjl = x := ⟨_, rfl⟩
      rw [hx] at HX HSN
      clear hx
      have d1 : (0 : Int) ≤ (j : Int) := by omega
      have d2 : (j : Int) < (n : Int) := by omega
      obtain ⟨A1, c1, rfl, hr1⟩ := RowIn.of_own encK_len HO.out
      have HP := Lib.hid (put_any A1 c1 (sortK (l.take j)) x wr.heap.size (by rw [sortK_len, List.length_take]; omega) wr (Nat.le_refl _) hr1)
      clear hr1
      obtain ⟨m, hm⟩ : ∃ m, (sortK (l.take j)).length = m := ⟨_, rfl⟩
      rw [hm] at HP ⊢
      clear HO hm
      go_wp2_with (first
        | ((with_reducible refine at_loadg 15 ?_); refine tyK.wpList_load (by rfl) (.tmp 15) rfl g _ rfl x (HX.out.cast (by omega)) ?_; simp only [encK_bytes])
        | (go_at_call 29; refine HP.out.mono ?_; rintro e w2 ⟨v2, rfl, o2, b2⟩))
      go_roundw
      case rel => exact ⟨j + 1, by go_num, by omega, Lib.hid (own_congr (own_mono o2 HW.out.size) HSN.out.symm), Lib.hid (HW.out.trans (b2.mono HW.out.size))⟩
      case measure => simp [intOf]; omega
    · have hje : j = n := by omega
      subst hje
      have HLJ := Lib.hid (show sortK (l.take j) = r by rw [List.take_of_length_le (by rw [HN.out]; exact Nat.le_refl _)]; exact HR.out)
      go_wp2_with fail
      go_ret
      exact ⟨_, rfl, own_congr HO.out HLJ.out, HW.out⟩
set_option maxRecDepth 20000 in
set_option maxHeartbeats 1000000 in
theorem refInsert_any (A : Option Addr) (c : Nat) (l : List K32) (k : K32) (hl : l.length ≤ 100000) (w : World) (h : RowIn encK 32 w w.heap.size A c l) :
    Calls Try.prog 22 #[.slice A l.length c, .agg (bytesA k.1)] w fun e w' => ∃ A' c', e = .returned (.tuple #[.slice A' (insK k l).length c', .bool !(decide (k ∈ l))]) ∧ RowIn encK 32 w' w'.heap.size A' c' (insK k l) ∧ Below w.heap.size w w' := by
  have B1 : Below w.heap.size w (w.alloc (.cells (bytesA k.1) 29)) := (Below.refl _ _).alloc (Nat.le_refl _) _
  have K3 := Lib.hid (Blk.new w 29 (bytesA k.1))
  have HH := Lib.hid (refHas_any A c l k w.heap.size (w.alloc (.cells (bytesA k.1) 29)) (by omega) (by simp) (h.below B1))
  have HP := Lib.hid (fun W (hW : Below w.heap.size w W) => put_any A c l k w.heap.size hl W hW.size (h.below hW))
  have HRI := Lib.hid (fun W (hW : Below w.heap.size w W) => (h.below hW).more hW.size)
  have HB1 := Lib.hid B1
  clear h B1
  by_cases hm : k ∈ l
  · have hi : insK k l = l := by unfold insK; rw [if_pos hm]
    rw [hi, decide_eq_true hm]
    rw [decide_eq_true hm] at HH
    clear hi
    obtain ⟨n, hn⟩ : ∃ n, l.length = n := ⟨_, rfl⟩
    rw [hn] at HH ⊢
    clear hn hl
    go_enter Try.func22, Try.ntmps22
    go_wp2_with (first
      | ((with_reducible refine at_loadg 3 ?_); refine wpList_load_rowg (by rfl) 29 (.tmp 3) rfl w.heap.size rfl 29 (bytesA k.1) _ K3.out Try.underlying29 rfl (szK k) ?_)
      | (go_at_call 17; refine HH.out.mono ?_; rintro e w1 ⟨rfl, b1⟩))
    go_ret2
    have B2 := HB1.out.trans (b1.mono (by simp))
    exact ⟨_, _, rfl, HRI.out _ B2, B2⟩
  · have hi : insK k l = putK k l := by unfold insK; rw [if_neg hm]
    rw [hi, decide_eq_false hm]
    rw [decide_eq_false hm] at HH
    clear hi
    have HPL := Lib.hid (rfl : putK k l = putK k l)
    obtain ⟨r, hr⟩ : ∃ r, putK k l = r := ⟨_, rfl⟩
    rw [hr] at HP ⊢
    obtain ⟨n, hn⟩ : ∃ n, l.length = n := ⟨_, rfl⟩
    rw [hn] at HH HP ⊢
    clear hn hl hr HPL
    go_enter Try.func22, Try.ntmps22
    go_wp2_with (first
      | ((with_reducible refine at_loadg 3 ?_); refine wpList_load_rowg (by rfl) 29 (.tmp 3) rfl w.heap.size rfl 29 (bytesA k.1) _ K3.out Try.underlying29 rfl (szK k) ?_)
      | (go_at_call 17; refine HH.out.mono ?_; rintro e w1 ⟨rfl, b1⟩; have B2 := HB1.out.trans (b1.mono (by simp)); replace K3 := Lib.hid (below_blk b1 K3.out K3.out.lt))
      | (go_at_call 29; refine (HP.out _ B2).mono ?_; rintro e w2 ⟨v2, rfl, o2, b2⟩))
    go_ret2
    obtain ⟨A2, c2, rfl, hr2⟩ := RowIn.of_own encK_len o2
    exact ⟨_, _, rfl, hr2, B2.trans (b2.mono B2.size)⟩
set_option maxRecDepth 20000 in
set_option maxHeartbeats 2000000 in
theorem refDistinct_any (A : Option Addr) (c : Nat) (l : List K32) (B : Nat) (hl : l.length ≤ 100000) (w : World) (hB : B ≤ w.heap.size) (h : RowIn encK 32 w B A c l) :
    Calls Try.prog 16 #[.slice A l.length c] w fun e w' => e = .returned (.bool (decide l.Nodup)) ∧ Below w.heap.size w w' := by
  have HOR := Lib.hid (fun W (hW : Below w.heap.size w W) => h.below (w' := W) (hW.mono hB))
  have hcl := h.le
  clear h
  obtain ⟨r, hr⟩ : ∃ r, decide l.Nodup = r := ⟨_, rfl⟩
  rw [hr]
  have HR := Lib.hid hr
  clear hr
  obtain ⟨n, hn⟩ : ∃ n, l.length = n := ⟨_, rfl⟩
  rw [hn] at hl hcl ⊢
  have HN := Lib.hid hn
  clear hn
  go_enter Try.func16, Try.ntmps16
  go_wp2_with fail
  go_loopw [3] (fun si wr => ∃ j : Nat, si = .int .i64 j ∧ j ≤ n ∧ Hid ((l.take j).Nodup) ∧ Hid (Below w.heap.size w wr)) (fun i _ => n - (intOf i).toNat)
  case atStart => exact ⟨0, rfl, by omega, Lib.hid (by simp), Lib.hid (Below.refl _ _)⟩
  case round =>
    obtain ⟨j, rfl, hj, HI, HW⟩ := hrel
    by_cases hlt : j < n
    · have hjl : j < l.length := by rw [HN.out]; exact hlt
      have HSN := Lib.hid (take_snoc l j hjl)
      have hri := HOR.out wr HW.out
      obtain ⟨g, o, rfl, hg, hc⟩ := hri.cells (by intro e; subst e; simp at hjl)
      have HX := Lib.hid (hc.at encK_len hjl)
      clear hc
      obtain ⟨x, hx⟩ : ∃ x, l[j]'hjl = x := ⟨_, rfl⟩
      rw [hx] at HX HSN
      clear hx
      have hgw : g < wr.heap.size := by have := HW.out.size; omega
      have htl : (l.take j).length = j := by rw [List.length_take, HN.out]; omega
      have HC := Lib.hid (fun W (hC : From wr W) => refHas_any (some ⟨g, o, none⟩) c (l.take j) x B W (by rw [htl]; omega) (Nat.le_trans hB (Nat.le_trans HW.out.size hC.below.size)) ((hri.take encK_len j).below (hC.below.mono (Nat.le_trans hB HW.out.size))))
      rw [htl] at HC
      have hs1 : ∀ W, (Instr.slice 22 (.slice (some ⟨g, o, none⟩) n c) none (some (.int .i64 (j : Int))) none).run Try.prog W = .ok (.slice (some ⟨g, o, none⟩) j c) W := fun W => tyK.slice_to W _ n c j (by omega)
      have HS1 := Lib.hid hs1
      clear hri htl hs1
      have d1 : (0 : Int) ≤ (j : Int) := by omega
      have d2 : (j : Int) < (n : Int) := by omega
      obtain ⟨q, hq⟩ : ∃ q, decide (x ∈ l.take j) = q := ⟨_, rfl⟩
      rw [hq] at HC
      have HQ := Lib.hid hq
      clear hq
      cases q
      · go_wp2_with fail
        refine wp_region_from (by kernel_rfl) (by kernel_rfl) ?_
        repeat (first
          | ((with_reducible refine at_qload 15 ?_); refine tyK.wpQuiet_load (by rfl) (.tmp 15) rfl g _ rfl x (fun W hC => (HX.out.below hC.below hgw).cast (by omega)) ?_; simp only [encK_bytes, Act.put, List.setIfInBounds_toArray, List.set_cons_succ, List.set_cons_zero])
          | ((with_reducible refine at_qslice 12 ?_); refine wpQuiet_of_run (by rfl) (.slice (some ⟨g, o, none⟩) j c) (fun W _ => by have hs1 := HS1.out; go_simp; try with_reducible rfl) ?_; simp only [Act.put, List.setIfInBounds_toArray, List.set_cons_succ, List.set_cons_zero])
          | (go_big_quiet_want; go_big_quiet_op; refine ⟨_, fun _ _ => by with_reducible rfl, ?_⟩; go_big_quiet_on)
          | go_big_quiet_step ((intro hC; go_at_call 17; with_reducible exact (HC.out _ hC).mono fun _ _ h => ⟨h.1, hC.call h.2⟩)))
        refine wpQuiet_nil ?_
        intro w9 hC
        go_wp2_with fail
        go_roundw
        case rel => exact ⟨j + 1, by go_num, by omega, Lib.hid (by rw [HSN.out]; exact (nodup_snoc _ _).2 ⟨HI.out, of_decide_eq_false HQ.out⟩), Lib.hid (HW.out.trans (hC.below.mono HW.out.size))⟩
        case measure => simp [intOf]; omega
      · go_wp2_with fail
        refine wp_region_from (by kernel_rfl) (by kernel_rfl) ?_
        repeat (first
          | ((with_reducible refine at_qload 15 ?_); refine tyK.wpQuiet_load (by rfl) (.tmp 15) rfl g _ rfl x (fun W hC => (HX.out.below hC.below hgw).cast (by omega)) ?_; simp only [encK_bytes, Act.put, List.setIfInBounds_toArray, List.set_cons_succ, List.set_cons_zero])
          | ((with_reducible refine at_qslice 12 ?_); refine wpQuiet_of_run (by rfl) (.slice (some ⟨g, o, none⟩) j c) (fun W _ => by have hs1 := HS1.out; go_simp; try with_reducible rfl) ?_; simp only [Act.put, List.setIfInBounds_toArray, List.set_cons_succ, List.set_cons_zero])
          | (go_big_quiet_want; go_big_quiet_op; refine ⟨_, fun _ _ => by with_reducible rfl, ?_⟩; go_big_quiet_on)
          | go_big_quiet_step ((intro hC; go_at_call 17; with_reducible exact (HC.out _ hC).mono fun _ _ h => ⟨h.1, hC.call h.2⟩)))
        refine wpQuiet_nil ?_
        intro w9 hC
        go_wp2_with fail
        go_ret
        refine ⟨?_, HW.out.trans (hC.below.mono HW.out.size)⟩
        have hnd : ¬ l.Nodup := fun hd => by
          have h1 : (l.take (j + 1)).Nodup := hd.sublist (List.take_sublist _ _)
          rw [HSN.out] at h1
          exact ((nodup_snoc _ _).1 h1).2 (of_decide_eq_true HQ.out)
        rw [← HR.out, decide_eq_false hnd]
        rfl
    · have hje : j = n := by omega
      subst hje
      go_wp2_with fail
      go_ret
      refine ⟨?_, HW.out⟩
      have hd : l.Nodup := by have := HI.out; rwa [List.take_of_length_le (by rw [HN.out]; exact Nat.le_refl _)] at this
      rw [← HR.out, decide_eq_true hd]
      rfl
set_option maxRecDepth 20000 in
set_option maxHeartbeats 2000000 in
theorem refMeet_any (A : Option Addr) (c : Nat) (l : List K32) (A' : Option Addr) (c' : Nat) (m : List K32) (B : Nat) (hl : l.length ≤ 100000) (hm : m.length ≤ 100000) (w : World) (hB : B ≤ w.heap.size) (h : RowIn encK 32 w B A c l) (h' : RowIn encK 32 w B A' c' m) :
    Calls Try.prog 28 #[.slice A l.length c, .slice A' m.length c'] w fun e w' => e = .returned (.bool (meetF l m)) ∧ Below w.heap.size w w' := by
  have HOR := Lib.hid (fun W (hW : Below w.heap.size w W) => h.below (w' := W) (hW.mono hB))
  have HC := Lib.hid (fun x W (hW : Below w.heap.size w W) => refHas_any A' c' m x B W (by omega) (Nat.le_trans hB hW.size) (h'.below (hW.mono hB)))
  clear h h'
  obtain ⟨r, hr⟩ : ∃ r, meetF l m = r := ⟨_, rfl⟩
  rw [hr]
  have HR := Lib.hid hr
  clear hr
  obtain ⟨n, hn⟩ : ∃ n, l.length = n := ⟨_, rfl⟩
  rw [hn] at hl ⊢
  have HN := Lib.hid hn
  clear hn
  obtain ⟨n', hn'⟩ : ∃ n, m.length = n := ⟨_, rfl⟩
  rw [hn'] at HC ⊢
  clear hn' hm
  go_enter Try.func28, Try.ntmps28
  go_wp2_with fail
  go_loopw [5] (fun si wr => ∃ j : Nat, si = .int .i64 j ∧ j ≤ n ∧ Hid (∀ x ∈ l.take j, x ∉ m) ∧ Hid (Below w.heap.size w wr)) (fun i _ => n - (intOf i).toNat)
  case atStart => exact ⟨0, rfl, by omega, Lib.hid (by simp), Lib.hid (Below.refl _ _)⟩
  case round =>
    obtain ⟨j, rfl, hj, HI, HW⟩ := hrel
    by_cases hlt : j < n
    · have hjl : j < l.length := by rw [HN.out]; exact hlt
      have HSN := Lib.hid (take_snoc l j hjl)
      have HXM := Lib.hid (List.getElem_mem hjl)
      obtain ⟨g, o, rfl, hg, hc⟩ := (HOR.out wr HW.out).cells (by intro e; subst e; simp at hjl)
      have HX := Lib.hid (hc.at encK_len hjl)
      clear hc
      obtain ⟨x, hx⟩ : ∃ x, l[j]'hjl = x := ⟨_, rfl⟩
      rw [hx] at HX HSN HXM
      clear hx
      have d1 : (0 : Int) ≤ (j : Int) := by omega
      have d2 : (j : Int) < (n : Int) := by omega
      have HC1 := Lib.hid (HC.out x wr HW.out)
      obtain ⟨q, hq⟩ : ∃ q, decide (x ∈ m) = q := ⟨_, rfl⟩
      rw [hq] at HC1
      have HQ := Lib.hid hq
      clear hq
      cases q
      · go_wp2_with (first
          | ((with_reducible refine at_loadg 15 ?_); refine tyK.wpList_load (by rfl) (.tmp 15) rfl g _ rfl x (HX.out.cast (by omega)) ?_; simp only [encK_bytes])
          | (go_at_call 17; refine HC1.out.mono ?_; rintro e w2 ⟨rfl, b2⟩))
        go_roundw
        case rel =>
          refine ⟨j + 1, by go_num, by omega, Lib.hid (fun y hy => ?_), Lib.hid (HW.out.trans (b2.mono HW.out.size))⟩
          rw [HSN.out] at hy
          rcases List.mem_append.1 hy with h1 | h1
          · exact HI.out y h1
          · simp at h1; subst h1; exact of_decide_eq_false HQ.out
        case measure => simp [intOf]; omega
      · go_wp2_with (first
          | ((with_reducible refine at_loadg 15 ?_); refine tyK.wpList_load (by rfl) (.tmp 15) rfl g _ rfl x (HX.out.cast (by omega)) ?_; simp only [encK_bytes])
          | (go_at_call 17; refine HC1.out.mono ?_; rintro e w2 ⟨rfl, b2⟩))
        go_ret
        refine ⟨?_, HW.out.trans (b2.mono HW.out.size)⟩
        have hmt : meetF l m = true := List.any_eq_true.2 ⟨x, of_decide_eq_true HQ.out, decide_eq_true HXM.out⟩
        rw [← HR.out, hmt]
        rfl
    · have hje : j = n := by omega
      subst hje
      go_wp2_with fail
      go_ret
      refine ⟨?_, HW.out⟩
      have hmt : meetF l m = false := by
        rw [Bool.eq_false_iff]
        intro h1
        obtain ⟨y, hy, h2⟩ := List.any_eq_true.1 h1
        have := HI.out
        rw [List.take_of_length_le (by rw [HN.out]; exact Nat.le_refl _)] at this
        exact this y (of_decide_eq_true h2) hy
      rw [← HR.out, hmt]
      rfl
end Go.Proofs.Ytklfbconbkbmpaa
