/- slices.Compact at keys: how long its answer is; keys.Distinct (made by genCompact.py). -/
import Derived.Test.YticphjnabecanaaKeyH
import Derived.Test.YticphjnabecanaaGenA
namespace Go.Proofs.Yticphjnabecanaa
open Go.RowKit Go.Sort
theorem zK : ∃ z : Value, (∀ w, (zeroValue 26).run Try.prog w = .ok z w) ∧ (∀ v ∈ z.cells, v.oneCell' = true) ∧ z.cells.size = 32 := by
  refine ⟨_, Try.zeroValue26, ?_, rfl⟩
  intro v hv
  simp only [Value.cells] at hv
  have h : ∀ q ∈ (List.replicate 32 (Value.int .u8 0)), q.oneCell' = true := fun q hq => by rw [List.eq_of_mem_replicate hq]; rfl
  exact h v (by simpa using hv)
theorem own_from {w W : World} {base : Nat} {e : TypeId} {size n : Nat} {v : Value} {xs : List Value} (h : w.ownsRow base e size v n xs) (hb : Below w.heap.size w W) : W.ownsRow base e size v n xs :=
  ⟨h.1, h.2.imp id fun ⟨g, cap, cur, h1, h2, h3, h4⟩ => ⟨g, cap, cur, h1, h2, (hb.block g (by
    rcases Nat.lt_or_ge g w.heap.size with hlt | hge
    · exact hlt
    · rw [Array.getElem?_eq_none hge] at h3; cases h3)).trans h3, h4⟩⟩
set_option maxRecDepth 20000 in
set_option maxHeartbeats 4000000 in
theorem compact_own (g cap : Nat) (l : List K32) (base : Nat) (w : World) (hl : l.length ≤ 1000000) (h2 : 2 ≤ l.length) (hbw : base ≤ w.heap.size) (h : w.ownsRow base 26 32 (.slice (some ⟨g, 0, none⟩) l.length cap) l.length (cellsOf encK l)) :
    Calls Try.prog 77 #[.slice (some ⟨g, 0, none⟩) l.length cap] w fun e w' => ∃ A c, e = .returned (.slice A (runs l) c) ∧ Below base w w' := by
  obtain ⟨r, hr⟩ : ∃ r, runs l = r := ⟨_, rfl⟩
  rw [hr]
  have HR := Lib.hid hr
  clear hr
  have hcap : l.length ≤ cap := by obtain ⟨_, _, _, hn, _⟩ := own_blk h; exact hn
  have hbg : base ≤ g := by obtain ⟨_, _, hn, _⟩ := own_blk h; exact hn
  have HOW := Lib.hid (fun W (l' : List K32) (hl' : l'.length = l.length) (ho : W.ownsRow base 26 32 (.slice (some ⟨g, 0, none⟩) l.length cap) l.length (cellsOf encK l')) => own_row encK_len (w := W) (base := base) (g := g) (cap := cap) (e := 26) (k := 32) (l := l') (by rw [hl']; exact ho))
  obtain ⟨n, hn⟩ : ∃ n, l.length = n := ⟨_, rfl⟩
  rw [hn] at h hcap hl h2 HOW ⊢
  have HN := Lib.hid hn
  clear hn
  have HO := Lib.hid h
  clear h
  obtain ⟨z, hz1, hz2, hz3⟩ := zK
  have HZ := Lib.hid (And.intro hz1 (And.intro hz2 hz3))
  clear hz1 hz2 hz3
  have d0 : decide ((n : Int) < 2) = false := decide_eq_false (by omega)
  go_enter Try.func77, Try.ntmps77
  go_wp2_with fail
  go_loopw [3] (fun i wr => ∃ j : Nat, i = .int .i64 j ∧ 1 ≤ j ∧ j ≤ n ∧ Hid (runs (l.take j) = j) ∧ Hid (wr.ownsRow base 26 32 (.slice (some ⟨g, 0, none⟩) n cap) n (cellsOf encK l) ∧ Below base w wr ∧ base ≤ wr.heap.size)) (fun i _ => n - (intOf i).toNat)
  case atStart =>
    refine ⟨1, rfl, by omega, by omega, Lib.hid ?_, Lib.hid ⟨HO.out, Below.refl _ _, hbw⟩⟩
    have hl0 : l ≠ [] := by intro e; have := HN.out; rw [e] at this; simp at this; omega
    obtain ⟨a, t, rfl⟩ := List.exists_cons_of_ne_nil hl0
    simp [runs]
  case round =>
    obtain ⟨j, rfl, hj1, hj, HI, HW⟩ := hrel
    by_cases hlt : j < n
    · obtain ⟨j0, rfl⟩ : ∃ j0, j = j0 + 1 := ⟨j - 1, by omega⟩
      have hjl : j0 + 1 < l.length := by rw [HN.out]; exact hlt
      have hjl0 : j0 < l.length := by omega
      have hrc := HOW.out wr l HN.out HW.out.1
      have HX := Lib.hid (hrc.1.at encK_len hjl)
      have HY := Lib.hid (hrc.1.at encK_len hjl0)
      have hgw := hrc.2
      clear hrc
      obtain ⟨x, hx⟩ : ∃ x, l[j0 + 1]'hjl = x := ⟨_, rfl⟩
      obtain ⟨y, hy⟩ : ∃ y, l[j0]'hjl0 = y := ⟨_, rfl⟩
      rw [hx] at HX
      rw [hy] at HY
      have HXY := Lib.hid (And.intro hx hy)
      clear hx hy
      have hq : ((j0 + 1 : Nat) : Int) = (j0 : Int) + 1 := by omega
      rw [hq]
      have d1 : (0 : Int) ≤ (j0 : Int) := by omega
      have d2 : (j0 : Int) < (n : Int) := by omega
      have d3 : (0 : Int) ≤ (j0 : Int) + 1 := by omega
      have d4 : (j0 : Int) + 1 < (n : Int) := by omega
      obtain ⟨b, hb⟩ : ∃ b, decide (x = y) = b := ⟨_, rfl⟩
      have HE := Lib.hid (eqK_is hb)
      have HB := Lib.hid hb
      clear hb
      cases b
      · go_wp2_with fail
        refine wp_region_from (by kernel_rfl) (by kernel_rfl) ?_
        repeat (first
          | ((with_reducible refine at_qload 18 ?_); refine tyK.wpQuiet_load (by rfl) (.tmp 18) rfl g _ rfl x (fun W hC => (HX.out.below hC.below hgw).cast (by omega)) ?_; simp only [encK_bytes, Act.put, List.setIfInBounds_toArray, List.set_cons_succ, List.set_cons_zero])
          | ((with_reducible refine at_qload 23 ?_); refine tyK.wpQuiet_load (by rfl) (.tmp 23) rfl g _ rfl y (fun W hC => (HY.out.below hC.below hgw).cast (by omega)) ?_; simp only [encK_bytes, Act.put, List.setIfInBounds_toArray, List.set_cons_succ, List.set_cons_zero])
          | ((with_reducible refine at_qeql 19 24 ?_); refine wpQuiet_eql_row (by rfl) 26 _ (.tmp 19) (.tmp 24) rfl (bytesA x.1) (bytesA y.1) rfl rfl (by kernel_rfl) false HE.out ?_; simp only [Act.put, List.setIfInBounds_toArray, List.set_cons_succ, List.set_cons_zero])
          | (go_big_quiet_want; go_big_quiet_op; refine ⟨_, fun _ _ => by with_reducible rfl, ?_⟩; go_big_quiet_on)
          | go_big_quiet_step (fail))
        refine wpQuiet_nil ?_
        intro w9 hC
        go_wp2_with fail
        go_roundw
        case rel =>
          refine ⟨j0 + 2, by go_num, by omega, by omega, Lib.hid ?_, Lib.hid ⟨own_from HW.out.1 hC.below, HW.out.2.1.trans (hC.below.mono HW.out.2.2), Nat.le_trans HW.out.2.2 hC.below.size⟩⟩
          rw [runs_take l j0 hjl, HI.out, HXY.out.1, HXY.out.2, if_neg (fun e => of_decide_eq_false HB.out e.symm)]
        case measure => simp [intOf]; omega
      · have hs1 : ∀ W, (Instr.slice 27 (.slice (some ⟨g, 0, none⟩) n cap) (some (.int .i64 ((j0 : Int) + 1))) none none).run Try.prog W = .ok (.slice (some ⟨g, (j0 + 1) * 32, none⟩) (n - (j0 + 1)) (cap - (j0 + 1))) W := fun W => by
          have := tyK.slice_from W (some ⟨g, 0, none⟩) n cap (j0 + 1) (by omega)
          rw [show ((j0 + 1 : Nat) : Int) = (j0 : Int) + 1 by omega] at this
          rw [this]
          unfold cutA
          rw [if_neg (by omega)]
          simp [Addr.add]
        go_wp2_with fail
        refine wp_region_from (by kernel_rfl) (by kernel_rfl) ?_
        repeat (first
          | ((with_reducible refine at_qload 18 ?_); refine tyK.wpQuiet_load (by rfl) (.tmp 18) rfl g _ rfl x (fun W hC => (HX.out.below hC.below hgw).cast (by omega)) ?_; simp only [encK_bytes, Act.put, List.setIfInBounds_toArray, List.set_cons_succ, List.set_cons_zero])
          | ((with_reducible refine at_qload 23 ?_); refine tyK.wpQuiet_load (by rfl) (.tmp 23) rfl g _ rfl y (fun W hC => (HY.out.below hC.below hgw).cast (by omega)) ?_; simp only [encK_bytes, Act.put, List.setIfInBounds_toArray, List.set_cons_succ, List.set_cons_zero])
          | ((with_reducible refine at_qeql 19 24 ?_); refine wpQuiet_eql_row (by rfl) 26 _ (.tmp 19) (.tmp 24) rfl (bytesA x.1) (bytesA y.1) rfl rfl (by kernel_rfl) true HE.out ?_; simp only [Act.put, List.setIfInBounds_toArray, List.set_cons_succ, List.set_cons_zero])
          | (go_big_quiet_want; go_big_quiet_op; refine ⟨_, fun _ _ => by with_reducible rfl, ?_⟩; go_big_quiet_on)
          | go_big_quiet_step (fail))
        refine wpQuiet_nil ?_
        intro w9 hC
        have HO9 := Lib.hid (own_from HW.out.1 hC.below)
        have HB9 := Lib.hid (And.intro (HW.out.2.1.trans (hC.below.mono HW.out.2.2)) (Nat.le_trans HW.out.2.2 hC.below.size))
        have HS := Lib.hid (show runs (l.take (j0 + 1 + 1)) = j0 + 1 by rw [runs_take l j0 hjl, HI.out, HXY.out.1, HXY.out.2, if_pos (of_decide_eq_true HB.out).symm])
        clear HX HY HW HI HE HB HXY hC hgw
        go_wp2_with fail
        obtain ⟨L2, hL2⟩ : ∃ q, n - (j0 + 1) = q := ⟨_, rfl⟩
        rw [hL2]
        clear hs1
        go_loopw [3, 5] (fun s3 i wr => ∃ q kk : Nat, i = .int .i64 q ∧ s3 = .int .i64 kk ∧ 1 ≤ q ∧ q ≤ L2 ∧ j0 + 1 ≤ kk ∧ kk ≤ j0 + q ∧ Hid (runs (l.take (j0 + 1 + q)) = kk) ∧ Hid (∃ cur : List K32, cur.length = n ∧ (∀ t (h1 : t < l.length) (h2 : t < cur.length), j0 + q ≤ t → cur[t] = l[t]) ∧ wr.ownsRow base 26 32 (.slice (some ⟨g, 0, none⟩) n cap) n (cellsOf encK cur) ∧ Below base w wr ∧ base ≤ wr.heap.size)) (fun _ i _ => L2 - (intOf i).toNat)
        case atStart => exact ⟨1, j0 + 1, rfl, by go_num, by omega, by omega, by omega, by omega, HS, Lib.hid ⟨l, HN.out, fun t h1 h2 _ => rfl, HO9.out, HB9.out.1, HB9.out.2⟩⟩
        case round =>
          clear HO9 HB9 HS
          obtain ⟨q, kk, rfl, rfl, hq1, hq2, hk1, hk2, HI, HC⟩ := hrel
          obtain ⟨cur, hcl, hcur, hown, hbel, hbs⟩ := HC.out
          by_cases hlq : q < L2
          · obtain ⟨q0, rfl⟩ : ∃ q0, q = q0 + 1 := ⟨q - 1, by omega⟩
            have hjl : j0 + (q0 + 1) + 1 < l.length := by rw [HN.out]; omega
            have hjl0 : j0 + (q0 + 1) < l.length := by omega
            have hcx : cur[j0 + (q0 + 1) + 1]'(by rw [hcl]; rw [HN.out] at hjl; exact hjl) = l[j0 + (q0 + 1) + 1]'hjl := hcur _ hjl _ (by omega)
            have hcy : cur[j0 + (q0 + 1)]'(by rw [hcl]; rw [HN.out] at hjl0; exact hjl0) = l[j0 + (q0 + 1)]'hjl0 := hcur _ hjl0 _ (by omega)
            have hrc := HOW.out wr cur hcl hown
            have HX := Lib.hid (hrc.1.at encK_len (i := j0 + (q0 + 1) + 1) (by rw [hcl]; rw [HN.out] at hjl; exact hjl))
            have HY := Lib.hid (hrc.1.at encK_len (i := j0 + (q0 + 1)) (by rw [hcl]; rw [HN.out] at hjl0; exact hjl0))
            have hgw := hrc.2
            rw [hcx] at HX
            rw [hcy] at HY
            clear hrc hcx hcy
            obtain ⟨x, hx⟩ : ∃ x, l[j0 + (q0 + 1) + 1]'hjl = x := ⟨_, rfl⟩
            obtain ⟨y, hy⟩ : ∃ y, l[j0 + (q0 + 1)]'hjl0 = y := ⟨_, rfl⟩
            rw [hx] at HX
            rw [hy] at HY
            have HXY := Lib.hid (And.intro hx hy)
            clear hx hy
            have HCU := Lib.hid (And.intro hcl hcur)
            have HOWN := Lib.hid hown
            have HBE := Lib.hid (And.intro hbel hbs)
            clear hcl hcur hown hbel hbs HC
            have hqq : ((q0 + 1 : Nat) : Int) = (q0 : Int) + 1 := by omega
            rw [hqq]
            have d5 : (0 : Int) ≤ (q0 : Int) := by omega
            have d6 : (q0 : Int) < (L2 : Int) := by omega
            have d7 : (0 : Int) ≤ (q0 : Int) + 1 := by omega
            have d8 : (q0 : Int) + 1 < (L2 : Int) := by omega
            have d9 : (0 : Int) ≤ (kk : Int) := by omega
            have d10 : (kk : Int) < (n : Int) := by omega
            have HRT := Lib.hid (runs_take l (j0 + (q0 + 1)) hjl)
            obtain ⟨b, hb⟩ : ∃ b, decide (x = y) = b := ⟨_, rfl⟩
            have HE := Lib.hid (eqK_is hb)
            have HB := Lib.hid hb
            clear hb
            cases b
            · go_wp2_with fail
              refine wp_region_from (by kernel_rfl) (by kernel_rfl) ?_
              repeat (first
                | ((with_reducible refine at_qload 37 ?_); refine tyK.wpQuiet_load (by rfl) (.tmp 37) rfl g _ rfl x (fun W hC => (HX.out.below hC.below hgw).cast (by omega)) ?_; simp only [encK_bytes, Act.put, List.setIfInBounds_toArray, List.set_cons_succ, List.set_cons_zero])
                | ((with_reducible refine at_qload 42 ?_); refine tyK.wpQuiet_load (by rfl) (.tmp 42) rfl g _ rfl y (fun W hC => (HY.out.below hC.below hgw).cast (by omega)) ?_; simp only [encK_bytes, Act.put, List.setIfInBounds_toArray, List.set_cons_succ, List.set_cons_zero])
                | ((with_reducible refine at_qneq 38 43 ?_); refine wpQuiet_neq_row (by rfl) 26 _ (.tmp 38) (.tmp 43) rfl (bytesA x.1) (bytesA y.1) rfl rfl (by kernel_rfl) false HE.out ?_; simp only [Act.put, List.setIfInBounds_toArray, List.set_cons_succ, List.set_cons_zero])
                | (go_big_quiet_want; go_big_quiet_op; refine ⟨_, fun _ _ => by with_reducible rfl, ?_⟩; go_big_quiet_on)
                | go_big_quiet_step (fail))
              refine wpQuiet_nil ?_
              intro w9 hC
              have HX9 := Lib.hid (HX.out.below hC.below hgw)
              have HOWN9 := Lib.hid (own_from HOWN.out hC.below)
              have HBE9 := Lib.hid (And.intro (HBE.out.1.trans (hC.below.mono HBE.out.2)) (Nat.le_trans HBE.out.2 hC.below.size))
              clear HX HY HOWN HBE hC hgw
              go_wp2_with (first
                | ((with_reducible refine at_loadg 49 ?_); refine tyK.wpList_load (by rfl) (.tmp 49) rfl g _ rfl x (HX9.out.cast (by omega)) ?_; simp only [encK_bytes])
                | ((with_reducible refine at_store 51 50 ?_); refine tyK.wpList_storeOwn rfl (.tmp 51) (.tmp 50) rfl rfl g kk x rfl rfl base cap n cur HCU.out.1 HOWN9.out (by rw [HCU.out.1]; omega) ?_; intro w5 o5 p5; have HP5 := Lib.hid p5; have HO5 := Lib.hid o5))
              go_roundw
              case rel =>
                refine ⟨q0 + 2, kk + 1, by go_num, by go_num, by omega, by omega, by omega, by omega, Lib.hid ?_, Lib.hid ⟨cur.set kk x, by rw [List.length_set]; exact HCU.out.1, fun t h1 h2 h3 => ?_, HP5.out, HBE9.out.1.trans (HO5.out.below (by simp; exact hbg)), by rw [HO5.out.size]; exact HBE9.out.2⟩⟩
                · have := HRT.out
                  rw [HXY.out.1, HXY.out.2, if_neg (fun e => of_decide_eq_false HB.out e.symm)] at this
                  rw [show j0 + 1 + (q0 + 2) = j0 + (q0 + 1) + 2 by omega, this, show j0 + (q0 + 1) + 1 = j0 + 1 + (q0 + 1) by omega, HI.out]
                · rw [List.getElem_set_ne (by omega)]
                  exact HCU.out.2 t h1 (by rw [List.length_set] at h2; exact h2) (by omega)
              case measure => simp [intOf]; omega
            · go_wp2_with fail
              refine wp_region_from (by kernel_rfl) (by kernel_rfl) ?_
              repeat (first
                | ((with_reducible refine at_qload 37 ?_); refine tyK.wpQuiet_load (by rfl) (.tmp 37) rfl g _ rfl x (fun W hC => (HX.out.below hC.below hgw).cast (by omega)) ?_; simp only [encK_bytes, Act.put, List.setIfInBounds_toArray, List.set_cons_succ, List.set_cons_zero])
                | ((with_reducible refine at_qload 42 ?_); refine tyK.wpQuiet_load (by rfl) (.tmp 42) rfl g _ rfl y (fun W hC => (HY.out.below hC.below hgw).cast (by omega)) ?_; simp only [encK_bytes, Act.put, List.setIfInBounds_toArray, List.set_cons_succ, List.set_cons_zero])
                | ((with_reducible refine at_qneq 38 43 ?_); refine wpQuiet_neq_row (by rfl) 26 _ (.tmp 38) (.tmp 43) rfl (bytesA x.1) (bytesA y.1) rfl rfl (by kernel_rfl) true HE.out ?_; simp only [Act.put, List.setIfInBounds_toArray, List.set_cons_succ, List.set_cons_zero])
                | (go_big_quiet_want; go_big_quiet_op; refine ⟨_, fun _ _ => by with_reducible rfl, ?_⟩; go_big_quiet_on)
                | go_big_quiet_step (fail))
              refine wpQuiet_nil ?_
              intro w9 hC
              go_wp2_with fail
              go_roundw
              case rel =>
                refine ⟨q0 + 2, kk, by go_num, rfl, by omega, by omega, by omega, by omega, Lib.hid ?_, Lib.hid ⟨cur, HCU.out.1, fun t h1 h2 h3 => HCU.out.2 t h1 h2 (by omega), own_from HOWN.out hC.below, HBE.out.1.trans (hC.below.mono HBE.out.2), Nat.le_trans HBE.out.2 hC.below.size⟩⟩
                have := HRT.out
                rw [HXY.out.1, HXY.out.2, if_pos (of_decide_eq_true HB.out).symm] at this
                rw [show j0 + 1 + (q0 + 2) = j0 + (q0 + 1) + 2 by omega, this, show j0 + (q0 + 1) + 1 = j0 + 1 + (q0 + 1) by omega, HI.out, Nat.add_zero]
              case measure => simp [intOf]; omega
          · have hqe : q = L2 := by omega
            subst hqe
            have hkn : kk < n := by omega
            have hs1 : ∀ W, (Instr.slice 27 (.slice (some ⟨g, 0, none⟩) n cap) (some (.int .i64 (kk : Int))) none none).run Try.prog W = .ok (.slice (some ⟨g, kk * 32, none⟩) (n - kk) (cap - kk)) W := fun W => by
              have := tyK.slice_from W (some ⟨g, 0, none⟩) n cap kk (by omega)
              rw [this]
              unfold cutA
              rw [if_neg (by omega)]
              simp only [Option.map_some, Addr.add]
              split
              · rename_i h0; rw [h0]
              · rw [Nat.zero_add]
            have hs2 : ∀ W, (Instr.slice 27 (.slice (some ⟨g, 0, none⟩) n cap) none (some (.int .i64 (kk : Int))) none).run Try.prog W = .ok (.slice (some ⟨g, 0, none⟩) kk cap) W := fun W => tyK.slice_to W (some ⟨g, 0, none⟩) n cap kk (by omega)
            have HBE := Lib.hid (And.intro hbel hbs)
            have HOWN := Lib.hid hown
            have hrk : r = kk := by rw [← HR.out, ← HI.out, List.take_of_length_le (by rw [HN.out]; omega)]
            subst hrk
            clear hcl hcur hown hbel hbs HC HI HR
            go_wp2_with ((with_reducible refine at_clearg 56 ?_); refine tyK.wpList_clear rfl (.tmp 56) rfl rfl base g n cap _ HOWN.out z HZ.out.1 HZ.out.2.1 HZ.out.2.2 r (n - r) (cap - r) _ rfl rfl (by omega) ?_; intro w5 o5)
            go_ret
            exact ⟨_, _, rfl, HBE.out.1.trans (o5.below (by simp; exact hbg))⟩
    · have hje : j = n := by omega
      subst hje
      have hrk : r = j := by rw [← HR.out]; have := HI.out; rwa [List.take_of_length_le (by rw [HN.out]; exact Nat.le_refl _)] at this
      subst hrk
      go_wp2_with fail
      go_ret
      exact ⟨_, _, rfl, HW.out.2.1⟩
/-- Compact: how long its answer is -/
theorem compact_any (v : Value) (l : List K32) (base : Nat) (w : World) (hl : l.length ≤ 1000000) (hbw : base ≤ w.heap.size) (h : w.ownsRow base 26 32 v l.length (cellsOf encK l)) :
    Calls Try.prog 77 #[v] w fun e w' => ∃ A c, e = .returned (.slice A (runs l) c) ∧ Below base w w' := by
  obtain ⟨A, c, rfl⟩ := own_shape h
  by_cases h2 : 2 ≤ l.length
  · rcases h.2 with ⟨_, h0⟩ | ⟨g, cap, cur, h1, _⟩
    · omega
    · injection h1 with h1 _ h3
      subst h1
      subst h3
      exact compact_own g _ l base w hl h2 hbw h
  · have hr : runs l = l.length := by
      rcases l with _ | ⟨a, _ | ⟨b, t⟩⟩
      · rfl
      · rfl
      · simp at h2
    rw [hr]
    obtain ⟨n, hn⟩ : ∃ n, l.length = n := ⟨_, rfl⟩
    rw [hn] at h2 ⊢
    clear hn h hr hl
    have d0 : decide ((n : Int) < 2) = true := decide_eq_true (by omega)
    go_enter Try.func77, Try.ntmps77
    go_wp2_with fail
    go_ret
    exact ⟨_, _, rfl, Below.refl _ _⟩
set_option maxRecDepth 20000 in
set_option maxHeartbeats 1000000 in
theorem distinct_any (A : Option Addr) (c : Nat) (l : List K32) (B : Nat) (w : World) (hl : l.length ≤ 1000000) (hB : B ≤ w.heap.size) (h : RowIn encK 32 w B A c l) :
    Calls Try.prog 63 #[.slice A l.length c] w fun e w' => e = .returned (.bool (decide l.Nodup)) ∧ Below w.heap.size w w' := by
  have HS := Lib.hid (sort_any A c l B w hl hB h)
  clear h
  have HC := Lib.hid (fun v W (hW : Below w.heap.size w W) (ho : W.ownsRow w.heap.size 26 32 v (sortK l).length (cellsOf encK (sortK l))) => compact_any v (sortK l) w.heap.size W (by rw [sortK_len]; exact hl) hW.size ho)
  rw [sortK_len] at HC
  have hd : (((runs (sortK l) : Nat) : Int) == ((l.length : Nat) : Int)) = decide l.Nodup := by
    rw [Bool.eq_iff_iff, beq_iff_eq, decide_eq_true_iff, ← distinct_iff]; omega
  obtain ⟨r, hr⟩ : ∃ r, runs (sortK l) = r := ⟨_, rfl⟩
  rw [hr] at HC hd
  obtain ⟨b, hb⟩ : ∃ b, decide l.Nodup = b := ⟨_, rfl⟩
  rw [hb] at hd ⊢
  obtain ⟨n, hn⟩ : ∃ n, l.length = n := ⟨_, rfl⟩
  rw [hn] at HS HC hd ⊢
  clear hr hb hn hl
  go_enter Try.func63, Try.ntmps63
  go_wp2_with (first
    | (go_at_call 53; refine HS.out.mono ?_; rintro e w1 ⟨v, rfl, o1, b1⟩)
    | (go_at_call 77; refine (HC.out _ _ b1 o1).mono ?_; rintro e w2 ⟨A2, c2, rfl, b2⟩))
  go_ret
  exact ⟨by first | (rw [← hd]; rfl) | rfl, b1.trans b2⟩
end Go.Proofs.Yticphjnabecanaa
