/- slices.Clone, IndexFunc, Delete, Insert, Reverse at coins (and points). Written by genCoPS.py. -/
import Derived.Test.YtkjgmhamglhggaaOwnR
import Derived.Test.YtkjgmhamglhggaaCoiT
import Derived.Lib.Overlaps
namespace Go.Proofs.Ytkjgmhamglhggaa
open Go.RowKit
set_option maxRecDepth 20000 in
set_option maxHeartbeats 1000000 in
theorem cClone_any (A : Option Addr) (c : Nat) (l : List CoinV) (B : Nat) (w : World) (hl : l.length ≤ 1000000) (hB : B ≤ w.heap.size) (h : RowIn encC 68 w B A c l) :
    Calls Try.prog 44 #[.slice A l.length c] w fun e w' => ∃ v, e = .returned v ∧ w'.ownsRow w.heap.size 49 68 v l.length (cellsOf encC l) ∧ Below w.heap.size w w' := by
  have HH := Lib.hid (h.reads encC_len)
  have H1 := Lib.hid (cellsOf_all1 encC_one l)
  have hn : A = none → l = [] := fun e => by
    cases l with
    | nil => rfl
    | cons x l => obtain ⟨g, o, e', _⟩ := h.cells (by simp); rw [e] at e'; cases e'
  clear h
  obtain ⟨xs, hxs⟩ : ∃ xs, cellsOf encC l = xs := ⟨_, rfl⟩
  have HXS := Lib.hid hxs
  rw [hxs] at HH H1 ⊢
  clear hxs
  have q22 : ∀ (w : World) (a : Option Addr) (n c n' c' : Nat), (binOp .eql 22 (.slice a n c) (.slice none n' c')).run Try.prog w = .ok (.bool a.isNone) w := fun w a n c n' c' => Lib.run_eql_slice_nil w _ _ a n c n' c' Try.underlying22
  rcases A with _ | ad
  · have hl0 := hn rfl
    subst hl0
    have hx0 : xs = [] := by rw [← HXS.out]; rfl
    subst hx0
    go_enter Try.func44, Try.ntmps44
    go_wp2_with fail
    go_ret
    exact ⟨_, rfl, ⟨rfl, .inl ⟨rfl, rfl⟩⟩, Below.refl _ _⟩
  · clear hn
    obtain ⟨n, hn⟩ : ∃ n, l.length = n := ⟨_, rfl⟩
    rw [hn] at HH hl ⊢
    clear hn HXS
    obtain ⟨i0, hi0⟩ : ∃ i0, Try.prog.info? 49 = some i0 := Option.isSome_iff_exists.1 (by kernel_rfl)
    have hz : i0.zero.map (·.cells.size) = some 68 ∧ i0.size = 68 ∧ i0.bytes = 88 := by
      have h1 : (Try.prog.info? 49).map (fun i => (i.zero.map (·.cells.size), i.size, i.bytes)) = some (some 68, 68, 88) := by kernel_rfl
      rw [hi0] at h1
      simpa using h1
    obtain ⟨hz1, hz2, hz3⟩ := hz
    obtain ⟨z, hz4, hz5⟩ := Option.map_eq_some_iff.1 hz1
    have HZ := Lib.hid (And.intro hi0 (And.intro hz4 (And.intro hz2 (And.intro hz3 hz5))))
    clear hz1 hz2 hz3 hi0 hz4 hz5
    go_enter Try.func44, Try.ntmps44
    go_wp2_with (at_builtin; refine wpList_append_any _ rfl _ _ 22 rfl w.heap.size 49 i0 z 68 88 Try.underlying22 HZ.out.1 HZ.out.2.1 HZ.out.2.2.1 HZ.out.2.2.2.1 HZ.out.2.2.2.2 (by omega) _ 0 [] rfl (World.ownsRow_made w #[] 0 (Nat.le_refl _) (Nat.zero_le _) (by simp)) B _ n c xs rfl ((HH.out.more hB).alloc (Nat.le_refl _) _ |> fun h => ⟨h.1, fun hp => let ⟨ad', e1, e2, e3⟩ := HH.out.2 hp; ⟨ad', e1, e2, let ⟨ad2, f1, f2, f3⟩ := h.2 hp; (Option.some.inj (e1.symm.trans f1)) ▸ f3⟩⟩) H1.out ?_ ?_ ?_ ?_)
    · unfold maxLen; omega
    · omega
    · simp
    · intro v' w1 hown hgrow _
      go_wp2_with fail
      go_ret
      refine ⟨v', rfl, by simpa using hown, ?_⟩
      exact ((Below.refl _ w).alloc (Nat.le_refl _) _).grown hgrow (by simp) (by intro k hk; simp [Value.ownBlock] at hk; omega)
set_option maxRecDepth 20000 in
set_option maxHeartbeats 1000000 in
theorem pClone_any (A : Option Addr) (c : Nat) (l : List PtV) (B : Nat) (w : World) (hl : l.length ≤ 1000000) (hB : B ≤ w.heap.size) (h : RowIn (encKI .u32) 33 w B A c l) :
    Calls Try.prog 49 #[.slice A l.length c] w fun e w' => ∃ v, e = .returned v ∧ w'.ownsRow w.heap.size 32 33 v l.length (cellsOf (encKI .u32) l) ∧ Below w.heap.size w w' := by
  have HH := Lib.hid (h.reads (encKI_len _))
  have H1 := Lib.hid (cellsOf_all1 (encKI_one _) l)
  have hn : A = none → l = [] := fun e => by
    cases l with
    | nil => rfl
    | cons x l => obtain ⟨g, o, e', _⟩ := h.cells (by simp); rw [e] at e'; cases e'
  clear h
  obtain ⟨xs, hxs⟩ : ∃ xs, cellsOf (encKI .u32) l = xs := ⟨_, rfl⟩
  have HXS := Lib.hid hxs
  rw [hxs] at HH H1 ⊢
  clear hxs
  have q22 : ∀ (w : World) (a : Option Addr) (n c n' c' : Nat), (binOp .eql 24 (.slice a n c) (.slice none n' c')).run Try.prog w = .ok (.bool a.isNone) w := fun w a n c n' c' => Lib.run_eql_slice_nil w _ _ a n c n' c' Try.underlying24
  rcases A with _ | ad
  · have hl0 := hn rfl
    subst hl0
    have hx0 : xs = [] := by rw [← HXS.out]; rfl
    subst hx0
    go_enter Try.func49, Try.ntmps49
    go_wp2_with fail
    go_ret
    exact ⟨_, rfl, ⟨rfl, .inl ⟨rfl, rfl⟩⟩, Below.refl _ _⟩
  · clear hn
    obtain ⟨n, hn⟩ : ∃ n, l.length = n := ⟨_, rfl⟩
    rw [hn] at HH hl ⊢
    clear hn HXS
    obtain ⟨i0, hi0⟩ : ∃ i0, Try.prog.info? 32 = some i0 := Option.isSome_iff_exists.1 (by kernel_rfl)
    have hz : i0.zero.map (·.cells.size) = some 33 ∧ i0.size = 33 ∧ i0.bytes = 36 := by
      have h1 : (Try.prog.info? 32).map (fun i => (i.zero.map (·.cells.size), i.size, i.bytes)) = some (some 33, 33, 36) := by kernel_rfl
      rw [hi0] at h1
      simpa using h1
    obtain ⟨hz1, hz2, hz3⟩ := hz
    obtain ⟨z, hz4, hz5⟩ := Option.map_eq_some_iff.1 hz1
    have HZ := Lib.hid (And.intro hi0 (And.intro hz4 (And.intro hz2 (And.intro hz3 hz5))))
    clear hz1 hz2 hz3 hi0 hz4 hz5
    go_enter Try.func49, Try.ntmps49
    go_wp2_with (at_builtin; refine wpList_append_any _ rfl _ _ 24 rfl w.heap.size 32 i0 z 33 36 Try.underlying24 HZ.out.1 HZ.out.2.1 HZ.out.2.2.1 HZ.out.2.2.2.1 HZ.out.2.2.2.2 (by omega) _ 0 [] rfl (World.ownsRow_made w #[] 0 (Nat.le_refl _) (Nat.zero_le _) (by simp)) B _ n c xs rfl ((HH.out.more hB).alloc (Nat.le_refl _) _ |> fun h => ⟨h.1, fun hp => let ⟨ad', e1, e2, e3⟩ := HH.out.2 hp; ⟨ad', e1, e2, let ⟨ad2, f1, f2, f3⟩ := h.2 hp; (Option.some.inj (e1.symm.trans f1)) ▸ f3⟩⟩) H1.out ?_ ?_ ?_ ?_)
    · unfold maxLen; omega
    · omega
    · simp
    · intro v' w1 hown hgrow _
      go_wp2_with fail
      go_ret
      refine ⟨v', rfl, by simpa using hown, ?_⟩
      exact ((Below.refl _ w).alloc (Nat.le_refl _) _).grown hgrow (by simp) (by intro k hk; simp [Value.ownBlock] at hk; omega)
/-- the place of the first one of which p holds, or -1 -/
def firstCo (p : CoinV → Bool) (l : List CoinV) : Int := if l.any p = true then (l.findIdx p : Int) else -1
theorem firstCo_at (p : CoinV → Bool) (l : List CoinV) (k : Nat) (hk : k < l.length) (hp : p l[k] = true) (hb : ∀ j (h : j < l.length), j < k → p l[j] = false) : firstCo p l = k := by
  unfold firstCo
  rw [if_pos (List.any_eq_true.2 ⟨_, List.getElem_mem hk, hp⟩)]
  congr 1
  exact (List.findIdx_eq hk).2 ⟨hp, fun j hj => hb j (by omega) hj⟩
theorem firstCo_none (p : CoinV → Bool) (l : List CoinV) (hb : ∀ j (h : j < l.length), p l[j] = false) : firstCo p l = -1 := by
  unfold firstCo
  rw [if_neg]
  intro h
  obtain ⟨x, hx, hp⟩ := List.any_eq_true.1 h
  obtain ⟨i, hi, rfl⟩ := List.getElem_of_mem hx
  rw [hb i hi] at hp; cases hp
set_option maxRecDepth 20000 in
set_option maxHeartbeats 1000000 in
theorem cIndexFunc_any (A : Option Addr) (c : Nat) (l : List CoinV) (B : Nat) (w : World) (hl : l.length ≤ 1000000) (hB : B ≤ w.heap.size) (h : RowIn encC 68 w B A c l)
    (g : Nat) (cb : Array Value) (p : CoinV → Bool) (eg : ∀ args w, (callFunc g args).run Try.prog w = .ok (.enter g args) w)
    (hp : ∀ x W, Below w.heap.size w W → Calls Try.prog g (#[.agg (encC x).toArray] ++ cb) W fun e w' => e = .returned (.bool (p x)) ∧ Below W.heap.size W w') :
    Calls Try.prog 40 #[.slice A l.length c, .func (.func g) #[] cb] w fun e w' => e = .returned (.int .i64 (firstCo p l)) ∧ Below w.heap.size w w' := by
  obtain ⟨r, hr⟩ : ∃ r, firstCo p l = r := ⟨_, rfl⟩
  rw [hr]
  have HR := Lib.hid hr
  clear hr
  obtain ⟨n, hn⟩ : ∃ n, l.length = n := ⟨_, rfl⟩
  have HN := Lib.hid hn
  rw [hn] at hl
  have HH := Lib.hid h
  have HP := Lib.hid hp
  clear h hp
  rw [hn]
  clear hn
  go_enter Try.func40, Try.ntmps40
  go_wp2_with fail
  go_loopw [5, 8] (fun _ i wr => ∃ k : Nat, i = .int .i64 k ∧ k ≤ n ∧ Hid (∀ j (h : j < l.length), j < k → p l[j] = false) ∧ Hid (Below w.heap.size w wr)) (fun _ i _ => n - (intOf i).toNat)
  case atStart => exact ⟨0, rfl, by omega, Lib.hid (fun j h1 h2 => absurd h2 (Nat.not_lt_zero _)), Lib.hid (Below.refl _ _)⟩
  case round =>
    obtain ⟨k, rfl, hk, HI, HW⟩ := hrel
    by_cases hlt : k < n
    · have hk' : k < l.length := by rw [HN.out]; exact hlt
      obtain ⟨gg, o, rfl, hg, hc⟩ := HH.out.cells (by intro e; subst e; simp at hk')
      have HX := Lib.hid ((hc.below HW.out (by omega)).at encC_len hk')
      clear hc
      obtain ⟨x, hx⟩ : ∃ x, l[k]'hk' = x := ⟨_, rfl⟩
      rw [hx] at HX
      have HE := Lib.hid hx
      clear hx
      have d1 : (0 : Int) ≤ (k : Int) := by omega
      have d2 : (k : Int) < (n : Int) := by omega
      have HC := Lib.hid (HP.out x wr HW.out)
      obtain ⟨b, hb⟩ : ∃ b, p x = b := ⟨_, rfl⟩
      rw [hb] at HC
      have HB := Lib.hid hb
      clear hb
      cases b
      · go_wp2_with (first
          | ((with_reducible refine at_loadg 14 ?_); refine tyCo.wpList_load (by rfl) (.tmp 14) rfl gg _ rfl x (by have := HX.out; rwa [show o + k * 68 = o + k * 68 from rfl] at this) ?_)
          | (go_at_fn g; refine HC.out.mono ?_; rintro e w2 ⟨rfl, b2⟩))
        go_roundw
        case rel =>
          refine ⟨k + 1, by go_num, by omega, Lib.hid (fun j h1 h2 => ?_), Lib.hid (HW.out.trans (b2.mono HW.out.size))⟩
          by_cases e : j = k
          · subst e; rw [HE.out]; exact HB.out
          · exact HI.out j h1 (by omega)
        case measure => simp [intOf]; omega
      · go_wp2_with (first
          | ((with_reducible refine at_loadg 14 ?_); refine tyCo.wpList_load (by rfl) (.tmp 14) rfl gg _ rfl x (by have := HX.out; rwa [show o + k * 68 = o + k * 68 from rfl] at this) ?_)
          | (go_at_fn g; refine HC.out.mono ?_; rintro e w2 ⟨rfl, b2⟩))
        go_ret
        refine ⟨?_, HW.out.trans (b2.mono HW.out.size)⟩
        rw [← HR.out, firstCo_at p l k hk' (by rw [HE.out]; exact HB.out) HI.out]
        rfl
    · go_wp2_with fail
      go_ret
      refine ⟨?_, HW.out⟩
      rw [← HR.out, firstCo_none p l (fun j hj => HI.out j hj (by have := HN.out; omega))]
      rfl
theorem zCo : ∃ z : Value, (∀ w, (zeroValue 49).run Try.prog w = .ok z w) ∧ (∀ v ∈ z.cells, v.oneCell' = true) ∧ z.cells.size = 68 := by
  have h : (Try.prog.info? 49).bind (·.zero) = some (.agg (encC zeroCoin).toArray) := by kernel_rfl
  refine ⟨_, zeroV_of h, fun v hv => encC_one zeroCoin v (by simpa [Value.cells] using hv), ?_⟩
  show (encC zeroCoin).toArray.size = 68
  rw [List.size_toArray, encC_len]
theorem czcC : ((Try.prog.info? 49).bind (·.zero)).map (·.cells.size) = some 68 := by kernel_rfl
theorem czsC : ((Try.prog.info? 49).bind (·.zero)).isSome = true := by kernel_rfl
theorem czbC : ∃ b, (Try.prog.info? 49).map (·.bytes) = some b ∧ b ≤ 100000 := by
  refine ⟨((Try.prog.info? 49).map (·.bytes)).getD 0, ?_, ?_⟩
  · kernel_rfl
  · exact of_decide_eq_true (by kernel_rfl)
theorem erase_cells (l : List CoinV) (i : Nat) : (cellsOf encC l).take (i * 68) ++ ((cellsOf encC l).drop ((i + 1) * 68)).take ((l.length - (i + 1)) * 68) = cellsOf encC (l.eraseIdx i) := by
  have e : ((cellsOf encC l).drop ((i + 1) * 68)).take ((l.length - (i + 1)) * 68) = cellsOf encC (l.drop (i + 1)) := by
    rw [cellsOf_drop encC_len]
    exact List.take_of_length_le (by rw [cellsOf_len encC_len, List.length_drop]; exact Nat.le_refl _)
  rw [e, cellsOf_take encC_len, List.eraseIdx_eq_take_drop_succ, cellsOf_append]
theorem own_len {w : World} {base g n m cap : Nat} {e : TypeId} {k : Nat} {xs : List Value} (h : w.ownsRow base e k (.slice (some ⟨g, 0, none⟩) n cap) n xs) (e' : n = m) : w.ownsRow base e k (.slice (some ⟨g, 0, none⟩) m cap) m xs := e' ▸ h
set_option maxRecDepth 20000 in
set_option maxHeartbeats 2000000 in
theorem cDelete_own (base g cap i : Nat) (l : List CoinV) (w : World) (h : w.ownsRow base 49 68 (.slice (some ⟨g, 0, none⟩) l.length cap) l.length (cellsOf encC l)) (hi : i < l.length) (hl : l.length ≤ 100000) :
    Calls Try.prog 46 #[.slice (some ⟨g, 0, none⟩) l.length cap, .int .i64 i, .int .i64 ((i : Int) + 1)] w fun e w' => e = .returned (.slice (some ⟨g, 0, none⟩) (l.eraseIdx i).length cap) ∧ Only [g] w w' ∧ w'.ownsRow base 49 68 (.slice (some ⟨g, 0, none⟩) (l.eraseIdx i).length cap) (l.eraseIdx i).length (cellsOf encC (l.eraseIdx i)) := by
  obtain ⟨cur, hb, hbase, hcap, hcm, hcs, ht⟩ := own_blk h
  have HE := Lib.hid (erase_cells l i)
  have HEL := Lib.hid (show (l.eraseIdx i).length = i + (l.length - (i + 1)) by rw [List.length_eraseIdx_of_lt hi]; omega)
  have h1 := own_less h i (by omega)
  have hrd := own_reads h (i + 1) (l.length - (i + 1)) (by omega)
  have HO := Lib.hid h1
  have HRD := Lib.hid hrd
  have H1 := Lib.hid (cellsOf_all1 encC_one l)
  obtain ⟨n, hn⟩ : ∃ n, l.length = n := ⟨_, rfl⟩
  rw [hn] at HE HEL HRD hi hl hcap ⊢
  unfold maxLen at hcm
  obtain ⟨E, hE⟩ : ∃ E, (l.eraseIdx i).length = E := ⟨_, rfl⟩
  rw [hE] at HEL ⊢
  obtain ⟨z, hz⟩ := zCo
  have HZ := Lib.hid hz
  clear h h1 hrd hb hcs ht hn hE hz
  have hs3 : ∀ W, (Instr.slice 22 (.slice (some ⟨g, 0, none⟩) n cap) (some (.int .i64 (i : Int))) (some (.int .i64 ((i : Int) + 1))) (some (.int .i64 (n : Int)))).run Try.prog W = .ok (.slice (cutA 68 n i (some ⟨g, 0, none⟩)) (i + 1 - i) (n - i)) W := fun W => tyCo.slice_three W (some ⟨g, 0, none⟩) n cap i (i + 1) n (by omega) (by omega) (by omega)
  have HS1 := Lib.hid (show ∀ W, (Instr.slice 22 (.slice (some ⟨g, 0, none⟩) n cap) none (some (.int .i64 (i : Int))) none).run Try.prog W = .ok (.slice (some ⟨g, 0, none⟩) i cap) W from fun W => tyCo.slice_to W (some ⟨g, 0, none⟩) n cap i (by omega))
  have HS2 := Lib.hid (show ∀ W, (Instr.slice 22 (.slice (some ⟨g, 0, none⟩) n cap) (some (.int .i64 ((i : Int) + 1))) none none).run Try.prog W = .ok (.slice (cutA 68 cap (i + 1) (some ⟨g, 0, none⟩)) (n - (i + 1)) (cap - (i + 1))) W from fun W => tyCo.slice_from W (some ⟨g, 0, none⟩) n cap (i + 1) (by omega))
  have HS4 := Lib.hid (show ∀ W, (Instr.slice 22 (.slice (some ⟨g, 0, none⟩) (i + (n - (i + 1))) cap) (some (.int .i64 ((i + (n - (i + 1)) : Nat) : Int))) (some (.int .i64 (n : Int))) none).run Try.prog W = .ok (.slice (some ⟨g, (i + (n - (i + 1))) * 68, none⟩) (n - (i + (n - (i + 1)))) (cap - (i + (n - (i + 1))))) W from fun W => by
    have := tyCo.slice_mid W (some ⟨g, 0, none⟩) (i + (n - (i + 1))) cap (i + (n - (i + 1))) n (by omega) (by omega)
    rw [this]
    unfold cutA
    rw [if_neg (by omega)]
    simp [Addr.add_lit])
  have hne : ((i : Int) == (i : Int) + 1) = false := beq_eq_false_iff_ne.mpr (by omega)
  go_enter Try.func46, Try.ntmps46
  go_wp2_with fail
  clear hs3 hne
  refine wp_region_held_drew (S := fun _ => True) (by kernel_rfl) trivial ?_
  intro hS
  refine wpAnyH_take (i := 0) (v := .slice (some ⟨g, 0, none⟩) n cap) rfl (by kernel_rfl) (by kernel_rfl) (by kernel_rfl) (fun _ _ _ h => h) (Or.inl ⟨by rfl, fun W _ => by go_simp; try with_reducible rfl⟩) hS ?_
  simp only [Act.put, List.getElem_toArray, List.getElem_cons_zero, List.setIfInBounds_toArray, List.set_cons_succ, List.set_cons_zero]
  refine wpAnyH_take (i := 1) (v := .int .i64 i) rfl (by kernel_rfl) (by kernel_rfl) (by kernel_rfl) (fun _ _ _ h => h) (Or.inl ⟨by rfl, fun W _ => by go_simp; try with_reducible rfl⟩) hS ?_
  simp only [Act.put, List.getElem_toArray, List.getElem_cons_zero, List.getElem_cons_succ, List.setIfInBounds_toArray, List.set_cons_succ, List.set_cons_zero]
  refine wpAnyH_take (i := 2) (v := .slice (some ⟨g, 0, none⟩) i cap) rfl (by kernel_rfl) (by kernel_rfl) (by kernel_rfl) (fun _ _ _ h => h) (Or.inl ⟨by rfl, fun W _ => by have h2 := HS1.out; go_simp; try with_reducible rfl⟩) hS ?_
  simp only [Act.put, List.getElem_toArray, List.getElem_cons_zero, List.getElem_cons_succ, List.setIfInBounds_toArray, List.set_cons_succ, List.set_cons_zero]
  refine wpAnyH_take (i := 3) (v := .slice (some ⟨g, 0, none⟩) n cap) rfl (by kernel_rfl) (by kernel_rfl) (by kernel_rfl) (fun _ _ _ h => h) (Or.inl ⟨by rfl, fun W _ => by go_simp; try with_reducible rfl⟩) hS ?_
  simp only [Act.put, List.getElem_toArray, List.getElem_cons_zero, List.getElem_cons_succ, List.setIfInBounds_toArray, List.set_cons_succ, List.set_cons_zero]
  refine wpAnyH_take (i := 4) (v := .int .i64 ((i : Int) + 1)) rfl (by kernel_rfl) (by kernel_rfl) (by kernel_rfl) (fun _ _ _ h => h) (Or.inl ⟨by rfl, fun W _ => by go_simp; try with_reducible rfl⟩) hS ?_
  simp only [Act.put, List.getElem_toArray, List.getElem_cons_zero, List.getElem_cons_succ, List.setIfInBounds_toArray, List.set_cons_succ, List.set_cons_zero]
  refine wpAnyH_take (i := 5) (v := .slice (cutA 68 cap (i + 1) (some ⟨g, 0, none⟩)) (n - (i + 1)) (cap - (i + 1))) rfl (by kernel_rfl) (by kernel_rfl) (by kernel_rfl) (fun _ _ _ h => h) (Or.inl ⟨by rfl, fun W _ => by have h2 := HS2.out; go_simp; try with_reducible rfl⟩) hS ?_
  simp only [Act.put, List.getElem_toArray, List.getElem_cons_zero, List.getElem_cons_succ, List.setIfInBounds_toArray, List.set_cons_succ, List.set_cons_zero]
  refine wpAnyH_ready (rs := [6]) (by kernel_rfl) (by simp) ?_
  refine AllReadyH.cons rfl (fun Kq hK => ?_) AllReadyH.nil
  refine tyCo.step_append_in rfl (.tmp 22) (.tmp 25) rfl base g i cap _ rfl (own_drew HO.out) (n - (i + 1)) (cap - (i + 1)) w.heap.size _ _ rfl (reads_cut (HRD.out.drew) cap (by omega)) ?_ (by omega) ?_
  · intro v hv; exact H1.out v (List.mem_of_mem_drop (List.mem_of_mem_take hv))
  intro w4 o4 r4
  rw [HE.out] at r4
  have O4 := Lib.hid (show Only [g] w w4 from (Only.refl _ _).drew.trans o4)
  have R4 := Lib.hid r4
  clear o4 r4
  refine hK.out _ _ trivial (fun hS => ?_)
  clear hK Kq
  refine wpAnyH_ready (rs := [7]) (by kernel_rfl) (by simp) ?_
  refine AllReadyH.cons rfl (fun Kq hK => ?_) AllReadyH.nil
  go_simp
  refine hK.out _ _ trivial (fun hS => ?_)
  clear hK Kq
  refine wpAnyH_done (by kernel_rfl) ?_ _
  have hs4 := HS4.out
  go_wp2_with ((with_reducible refine at_clearg 31 ?_); refine tyCo.wpList_clear_behind rfl (.tmp 31) rfl rfl base g (i + (n - (i + 1))) cap _ R4.out z HZ.out.1 HZ.out.2.1 HZ.out.2.2 (n - (i + (n - (i + 1)))) (cap - (i + (n - (i + 1)))) rfl (by omega) ?_; intro w5 o5 r5)
  go_ret
  rw [HEL.out]
  exact ⟨rfl, O4.out.trans o5, r5⟩
theorem ins_grow {α : Type} (X ys E D : List α) (a k : Nat) (hX : X.length = a) (hE : E.length = k) (hy : ys.length = k + D.length) :
    ((X ++ ys).take a ++ E ++ (X ++ ys).drop (a + E.length)).take (a + k) ++ D ++ ((X ++ ys).take a ++ E ++ (X ++ ys).drop (a + E.length)).drop (a + k + D.length) = X ++ E ++ D := by
  subst hX hE
  rw [List.take_left, List.drop_append, Nat.add_sub_cancel_left, List.drop_of_length_le (l := X) (by omega), List.nil_append]
  have e1 : (X ++ E ++ ys.drop E.length).take (X.length + E.length) = X ++ E := by
    rw [← List.length_append]; exact List.take_left
  have e2 : (X ++ E ++ ys.drop E.length).drop (X.length + E.length + D.length) = [] := List.drop_of_length_le (by simp only [List.length_append, List.length_drop]; omega)
  rw [e1, e2, List.append_nil]
theorem ins_shift {α : Type} (X ys E D : List α) (a k : Nat) (hX : X.length = a) (hE : E.length = k) (hy : ys.length = k) :
    ((X ++ D ++ ys).take (a + k) ++ D ++ (X ++ D ++ ys).drop (a + k + D.length)).take a ++ E ++ ((X ++ D ++ ys).take (a + k) ++ D ++ (X ++ D ++ ys).drop (a + k + D.length)).drop (a + E.length) = X ++ E ++ D := by
  subst hX hE
  have e0 : (X ++ D ++ ys).drop (X.length + E.length + D.length) = [] := List.drop_of_length_le (by simp only [List.length_append]; omega)
  have l1 : ((X ++ D ++ ys).take (X.length + E.length)).length = X.length + E.length := by rw [List.length_take]; simp only [List.length_append]; omega
  rw [e0, List.append_nil]
  have e1 : ((X ++ D ++ ys).take (X.length + E.length) ++ D).take X.length = X := by
    rw [List.take_append_of_le_length (by rw [l1]; omega), List.take_take, Nat.min_eq_left (by omega), List.append_assoc, List.take_left]
  have e2 : ((X ++ D ++ ys).take (X.length + E.length) ++ D).drop (X.length + E.length) = D := by
    generalize (X ++ D ++ ys).take (X.length + E.length) = Z at l1 ⊢
    rw [← l1]
    exact List.drop_left
  rw [e1, e2]
theorem cells_split (l : List CoinV) (i : Nat) : cellsOf encC l = cellsOf encC (l.take i) ++ cellsOf encC (l.drop i) := by
  rw [← cellsOf_append, List.take_append_drop]
theorem isInt64 : Try.prog.underlying 3 = some (.int .i64) := by kernel_rfl
/-- what Insert leaves -/
def insAt (l : List CoinV) (i : Nat) (c : CoinV) : List CoinV := l.take i ++ [c] ++ l.drop i
theorem insAt_len (l : List CoinV) (i : Nat) (c : CoinV) : (insAt l i c).length = l.length + 1 := by
  unfold insAt
  rw [List.length_append, List.length_append, List.length_take, List.length_drop]
  simp only [List.length_singleton]
  omega
theorem insAt_cells (l : List CoinV) (i : Nat) (c : CoinV) : cellsOf encC (insAt l i c) = cellsOf encC (l.take i) ++ encC c ++ cellsOf encC (l.drop i) := by
  unfold insAt
  rw [cellsOf_append, cellsOf_append, cellsOf_one]
set_option maxRecDepth 20000 in
set_option maxHeartbeats 2000000 in
theorem cInsert_end (base : Nat) (v : Value) (l : List CoinV) (c : CoinV) (gv : Nat) (w : World) (h : w.ownsRow base 49 68 v l.length (cellsOf encC l)) (hl : l.length ≤ 100000) (hb : Blk w gv 49 (cellsOf encC [c]).toArray) (hbase : base ≤ w.heap.size) :
    Calls Try.prog 48 #[v, .int .i64 l.length, .slice (some ⟨gv, 0, none⟩) 1 1] w fun e w' => ∃ v', e = .returned v' ∧ w'.ownsRow base 49 68 v' (l.length + 1) (cellsOf encC l ++ encC c) ∧ w.grownBy w' v.ownBlock ∧ (v'.ownBlock = v.ownBlock ∨ v'.ownBlock = some w.heap.size) := by
  have HO := Lib.hid h
  obtain ⟨A, cc, rfl⟩ := own_shape h
  have HB := Lib.hid (show Reads w w.heap.size 68 (some ⟨gv, 0, none⟩) 1 (encC c) from ⟨by rw [encC_len], fun _ => ⟨_, rfl, hb.lt, fun j u hj => by rw [Addr.add_lit, Nat.zero_add, hb.cell, cellsOf_one, List.getElem?_toArray]; exact hj⟩⟩)
  have H1 := Lib.hid (encC_one c)
  obtain ⟨i0, hi0⟩ : ∃ i0, Try.prog.info? 49 = some i0 := Option.isSome_iff_exists.1 (by kernel_rfl)
  have hz : i0.zero.map (·.cells.size) = some 68 ∧ i0.size = 68 ∧ i0.bytes = 88 := by
    have h1 : (Try.prog.info? 49).map (fun i => (i.zero.map (·.cells.size), i.size, i.bytes)) = some (some 68, 68, 88) := by kernel_rfl
    rw [hi0] at h1
    simpa using h1
  obtain ⟨hz1, hz2, hz3⟩ := hz
  obtain ⟨z, hz4, hz5⟩ := Option.map_eq_some_iff.1 hz1
  have HZ := Lib.hid (And.intro hi0 (And.intro hz4 (And.intro hz2 (And.intro hz3 hz5))))
  clear hz1 hz2 hz3 hi0 hz4 hz5 h hb
  obtain ⟨xs, hxs⟩ : ∃ xs, cellsOf encC l = xs := ⟨_, rfl⟩
  rw [hxs] at HO ⊢
  obtain ⟨n, hn⟩ : ∃ n, l.length = n := ⟨_, rfl⟩
  rw [hn] at HO hl ⊢
  clear hxs hn
  have hs1 : ∀ W, (Instr.slice 22 (.slice A n cc) (some (.int .i64 (n : Int))) none none).run Try.prog W = .ok (.slice (cutA 68 cc n A) (n - n) (cc - n)) W := fun W => tyCo.slice_from W A n cc n (by omega)
  go_enter Try.func48, Try.ntmps48
  go_wp2_with ((with_reducible refine at_appendg 25 23 24 ?_); refine wpList_append_any _ rfl _ _ 22 rfl base 49 i0 z 68 88 Try.underlying22 HZ.out.1 HZ.out.2.1 HZ.out.2.2.1 HZ.out.2.2.2.1 HZ.out.2.2.2.2 (by omega) _ n xs rfl HO.out w.heap.size _ 1 1 (encC c) rfl HB.out H1.out (by unfold maxLen; omega) (by omega) hbase ?_; intro v5 w5 p5 g5 q5)
  go_ret
  exact ⟨v5, rfl, p5, g5, q5⟩
set_option maxRecDepth 20000 in
set_option maxHeartbeats 2000000 in
theorem cInsert_shift (base g cap i : Nat) (l : List CoinV) (c : CoinV) (gv : Nat) (w : World) (h : w.ownsRow base 49 68 (.slice (some ⟨g, 0, none⟩) l.length cap) l.length (cellsOf encC l)) (hi : i < l.length) (hroom : l.length + 1 ≤ cap) (hl : l.length ≤ 100000) (hb : Blk w gv 49 (cellsOf encC [c]).toArray) (hne : gv ≠ g) :
    Calls Try.prog 48 #[.slice (some ⟨g, 0, none⟩) l.length cap, .int .i64 i, .slice (some ⟨gv, 0, none⟩) 1 1] w fun e w' => e = .returned (.slice (some ⟨g, 0, none⟩) (l.length + 1) cap) ∧ w'.ownsRow base 49 68 (.slice (some ⟨g, 0, none⟩) (l.length + 1) cap) (l.length + 1) (cellsOf encC (insAt l i c)) ∧ Only [g] w w' := by
  obtain ⟨cur, hbc, hbase, hcap, hcm, hcs, ht⟩ := own_blk h
  obtain ⟨ys, hyl, h2⟩ := own_wider h (l.length + 1) (by omega) hroom
  rw [Nat.add_sub_cancel_left, Nat.one_mul] at hyl
  have HO := Lib.hid h2
  have hrd := own_reads h i (l.length - i) (by omega)
  rw [cellsOf_drop encC_len, List.take_of_length_le (by rw [cellsOf_len encC_len, List.length_drop]; exact Nat.le_refl _)] at hrd
  have HRD := Lib.hid hrd
  have HI := Lib.hid (show ((cellsOf encC l ++ ys).take ((i + 1) * 68) ++ cellsOf encC (l.drop i) ++ (cellsOf encC l ++ ys).drop ((i + 1) * 68 + (cellsOf encC (l.drop i)).length)).take (i * 68) ++ encC c ++ ((cellsOf encC l ++ ys).take ((i + 1) * 68) ++ cellsOf encC (l.drop i) ++ (cellsOf encC l ++ ys).drop ((i + 1) * 68 + (cellsOf encC (l.drop i)).length)).drop (i * 68 + (encC c).length) = cellsOf encC (insAt l i c) from by
    rw [insAt_cells, cells_split l i, Nat.add_mul, Nat.one_mul]
    exact ins_shift (cellsOf encC (l.take i)) ys (encC c) (cellsOf encC (l.drop i)) (i * 68) 68 (by rw [cellsOf_len encC_len, List.length_take, Nat.min_eq_left (by omega)]) (encC_len c) hyl)
  have HB := Lib.hid (show ∀ W, Only [g] w W → Reads W W.heap.size 68 (some ⟨gv, 0, none⟩) 1 (encC c) from fun W o => ⟨by rw [encC_len], fun _ => ⟨_, rfl, (o.blk hb (by simpa using hne)).lt, fun j u hj => by rw [Addr.add_lit, Nat.zero_add, (o.blk hb (by simpa using hne)).cell, cellsOf_one, List.getElem?_toArray]; exact hj⟩⟩)
  have H1 := Lib.hid (encC_one c)
  have H2 := Lib.hid (cellsOf_all1 encC_one (l.drop i))
  have hcur0 : cur.size ≠ 0 := by rw [hcs]; omega
  have hsa : w.shape? gv = some (49, (cellsOf encC [c]).toArray.size) := shape_blk hb
  have hsb : w.shape? g = some (49, cur.size) := shape_blk hbc
  have hov : ∀ lb cb, (callFunc 53 #[.slice (some ⟨gv, 0, none⟩) 1 1, .slice (some ⟨g, (i + 1) * 68, none⟩) lb cb]).run Try.prog w = .ok (.value (.bool false)) w := fun lb cb => by
    rw [run_callFunc_extern Try.func53 (by kernel_rfl) (by kernel_rfl) (by kernel_rfl) (e := Extern.SlicesOverlaps.overlaps #[22, 22] #[4]) (by kernel_rfl),
      Lib.run_overlaps_apart w 22 4 49 Try.underlying22 68 tyCo.sizeOf ⟨gv, 0, none⟩ ⟨g, (i + 1) * 68, none⟩ 1 1 lb cb hne 49 49 _ _ hsa hsb hcur0 (hb.frozen 0) (hb.frozen _)]
    rfl
  obtain ⟨D, hD⟩ : ∃ D, cellsOf encC (l.drop i) = D := ⟨_, rfl⟩
  obtain ⟨X, hX⟩ : ∃ X, cellsOf encC (insAt l i c) = X := ⟨_, rfl⟩
  obtain ⟨Y, hY⟩ : ∃ Y, cellsOf encC l ++ ys = Y := ⟨_, rfl⟩
  rw [hD, hX, hY] at HI
  rw [hD] at HRD H2
  rw [hY] at HO
  rw [hX]
  obtain ⟨n, hn⟩ : ∃ n, l.length = n := ⟨_, rfl⟩
  rw [hn] at HO HRD hi hl hroom hcap ⊢
  unfold maxLen at hcm
  clear h h2 hrd hb hbc hcs ht hn hD hX hY hsa hsb hyl hcur0
  have hs1 : ∀ W, (Instr.slice 22 (.slice (some ⟨g, 0, none⟩) n cap) (some (.int .i64 (i : Int))) none none).run Try.prog W = .ok (.slice (cutA 68 cap i (some ⟨g, 0, none⟩)) (n - i) (cap - i)) W := fun W => tyCo.slice_from W (some ⟨g, 0, none⟩) n cap i (by omega)
  have hs2 : ∀ W, (Instr.slice 22 (.slice (some ⟨g, 0, none⟩) n cap) none (some (.int .i64 ((n : Int) + 1))) none).run Try.prog W = .ok (.slice (some ⟨g, 0, none⟩) (n + 1) cap) W := fun W => tyCo.slice_to W (some ⟨g, 0, none⟩) n cap (n + 1) (by omega)
  have hs3 : ∀ W, (Instr.slice 22 (.slice (some ⟨g, 0, none⟩) (n + 1) cap) (some (.int .i64 ((i : Int) + 1))) none none).run Try.prog W = .ok (.slice (some ⟨g, (i + 1) * 68, none⟩) (n + 1 - (i + 1)) (cap - (i + 1))) W := fun W => by
    have := tyCo.slice_from W (some ⟨g, 0, none⟩) (n + 1) cap (i + 1) (by omega)
    rw [show ((i + 1 : Nat) : Int) = (i : Int) + 1 by omega] at this
    rw [this]
    unfold cutA
    rw [if_neg (by omega)]
    simp [Addr.add_lit]
  have hs4 : ∀ W, (Instr.slice 22 (.slice (some ⟨g, 0, none⟩) (n + 1) cap) (some (.int .i64 (i : Int))) none none).run Try.prog W = .ok (.slice (some ⟨g, i * 68, none⟩) (n + 1 - i) (cap - i)) W := fun W => by
    rw [tyCo.slice_from W (some ⟨g, 0, none⟩) (n + 1) cap i (by omega)]
    unfold cutA
    rw [if_neg (by omega)]
    simp [Addr.add_lit]
  have HS3 := Lib.hid hs3
  have HS4 := Lib.hid hs4
  have hne1 : ((i : Int) == (n : Int)) = false := beq_eq_false_iff_ne.mpr (by omega)
  have hw1 : IntKind.i64.wrap ((n : Int) + 1) = (n : Int) + 1 := by rw [IntKind.wrap_i64]; omega
  have hw2 : IntKind.i64.wrap ((i : Int) + 1) = (i : Int) + 1 := by rw [IntKind.wrap_i64]; omega
  have hgt : decide ((cap : Int) < (n : Int) + 1) = false := by simp; omega
  go_enter Try.func48, Try.ntmps48
  go_wp2_with (simp only [hov])
  clear hs1 hs2 hne1 hov
  refine wp_region_held_drew (S := fun _ => True) (by kernel_rfl) trivial ?_
  intro hS
  refine wpAnyH_take (i := 0) (v := .slice (some ⟨g, 0, none⟩) (n + 1) cap) rfl (by kernel_rfl) (by kernel_rfl) (by kernel_rfl) (fun _ _ _ h => h) (Or.inl ⟨by rfl, fun W _ => by go_simp; try with_reducible rfl⟩) hS ?_
  simp only [Act.put, List.getElem_toArray, List.getElem_cons_zero, List.setIfInBounds_toArray, List.set_cons_succ, List.set_cons_zero]
  refine wpAnyH_take (i := 1) (v := .int .i64 i) rfl (by kernel_rfl) (by kernel_rfl) (by kernel_rfl) (fun _ _ _ h => h) (Or.inl ⟨by rfl, fun W _ => by go_simp; try with_reducible rfl⟩) hS ?_
  simp only [Act.put, List.getElem_toArray, List.getElem_cons_zero, List.getElem_cons_succ, List.setIfInBounds_toArray, List.set_cons_succ, List.set_cons_zero]
  refine wpAnyH_take (i := 2) (v := .int .i64 1) rfl (by kernel_rfl) (by kernel_rfl) (by kernel_rfl) (fun _ _ _ h => h) (Or.inl ⟨by rfl, fun W _ => by go_simp; try with_reducible rfl⟩) hS ?_
  simp only [Act.put, List.getElem_toArray, List.getElem_cons_zero, List.getElem_cons_succ, List.setIfInBounds_toArray, List.set_cons_succ, List.set_cons_zero]
  refine wpAnyH_take (i := 3) (v := .int .i64 ((i : Int) + 1)) rfl (by kernel_rfl) (by kernel_rfl) (by kernel_rfl) (fun _ _ _ h => h) (Or.inl ⟨by rfl, fun W _ => by go_simp; try with_reducible rfl⟩) hS ?_
  simp only [Act.put, List.getElem_toArray, List.getElem_cons_zero, List.getElem_cons_succ, List.setIfInBounds_toArray, List.set_cons_succ, List.set_cons_zero]
  refine wpAnyH_take (i := 4) (v := .slice (some ⟨g, (i + 1) * 68, none⟩) (n + 1 - (i + 1)) (cap - (i + 1))) rfl (by kernel_rfl) (by kernel_rfl) (by kernel_rfl) (fun _ _ _ h => h) (Or.inl ⟨by rfl, fun W _ => by have h2 := HS3.out; go_simp; try with_reducible rfl⟩) hS ?_
  simp only [Act.put, List.getElem_toArray, List.getElem_cons_zero, List.getElem_cons_succ, List.setIfInBounds_toArray, List.set_cons_succ, List.set_cons_zero]
  refine wpAnyH_take (i := 5) (v := .slice (some ⟨g, 0, none⟩) (n + 1) cap) rfl (by kernel_rfl) (by kernel_rfl) (by kernel_rfl) (fun _ _ _ h => h) (Or.inl ⟨by rfl, fun W _ => by go_simp; try with_reducible rfl⟩) hS ?_
  simp only [Act.put, List.getElem_toArray, List.getElem_cons_zero, List.getElem_cons_succ, List.setIfInBounds_toArray, List.set_cons_succ, List.set_cons_zero]
  refine wpAnyH_take (i := 6) (v := .int .i64 i) rfl (by kernel_rfl) (by kernel_rfl) (by kernel_rfl) (fun _ _ _ h => h) (Or.inl ⟨by rfl, fun W _ => by go_simp; try with_reducible rfl⟩) hS ?_
  simp only [Act.put, List.getElem_toArray, List.getElem_cons_zero, List.getElem_cons_succ, List.setIfInBounds_toArray, List.set_cons_succ, List.set_cons_zero]
  refine wpAnyH_take (i := 7) (v := .slice (some ⟨g, i * 68, none⟩) (n + 1 - i) (cap - i)) rfl (by kernel_rfl) (by kernel_rfl) (by kernel_rfl) (fun _ _ _ h => h) (Or.inl ⟨by rfl, fun W _ => by have h2 := HS4.out; go_simp; try with_reducible rfl⟩) hS ?_
  simp only [Act.put, List.getElem_toArray, List.getElem_cons_zero, List.getElem_cons_succ, List.setIfInBounds_toArray, List.set_cons_succ, List.set_cons_zero]
  refine wpAnyH_ready (rs := [8]) (by kernel_rfl) (by simp) ?_
  refine AllReadyH.cons rfl (fun Kq hK => ?_) AllReadyH.nil
  refine tyCo.step_copy_own rfl (.tmp 73) (.tmp 76) rfl base g (n + 1) cap _ (own_drew HO.out) (i + 1) (n + 1 - (i + 1)) (cap - (i + 1)) (n + 1 - i) (cap - i) (n - i) w.heap.size _ D rfl rfl (by omega) (by omega) HRD.out.drew H2.out (by omega) ?_
  intro w4 o4 r4
  have O4 := Lib.hid (show Only [g] w w4 from (Only.refl _ _).drew.trans o4)
  have R4 := Lib.hid r4
  clear o4 r4
  refine hK.out _ _ trivial (fun hS => ?_)
  clear hK Kq
  refine wpAnyH_done (by kernel_rfl) ?_ _
  go_wp2_with ((with_reducible refine at_copyg 82 80 81 ?_); refine tyCo.wpList_copy_own rfl (.tmp 80) (.tmp 81) rfl base g (n + 1) cap _ R4.out i (n + 1 - i) (cap - i) 1 1 1 _ _ (encC c) rfl rfl (by omega) (by omega) (HB.out _ O4.out) H1.out (by omega) ?_; intro w5 o5 r5; rw [HI.out] at r5)
  go_ret
  exact ⟨rfl, r5, O4.out.trans o5⟩
set_option maxRecDepth 20000 in
set_option maxHeartbeats 2000000 in
theorem cInsert_grow (base g cap i : Nat) (l : List CoinV) (c : CoinV) (gv : Nat) (w : World) (h : w.ownsRow base 49 68 (.slice (some ⟨g, 0, none⟩) l.length cap) l.length (cellsOf encC l)) (hi : i < l.length) (hroom : cap < l.length + 1) (hl : l.length ≤ 100000) (hb : Blk w gv 49 (cellsOf encC [c]).toArray) :
    Calls Try.prog 48 #[.slice (some ⟨g, 0, none⟩) l.length cap, .int .i64 i, .slice (some ⟨gv, 0, none⟩) 1 1] w fun e w' => ∃ c', e = .returned (.slice (some ⟨w.heap.size, 0, none⟩) (l.length + 1) c') ∧ w'.ownsRow w.heap.size 49 68 (.slice (some ⟨w.heap.size, 0, none⟩) (l.length + 1) c') (l.length + 1) (cellsOf encC (insAt l i c)) ∧ Below w.heap.size w w' := by
  obtain ⟨cur, hbc, hbase, hcap, hcm, hcs, ht⟩ := own_blk h
  have h1 := own_less h i (by omega)
  rw [cellsOf_take encC_len] at h1
  have HO := Lib.hid h1
  have hrd := own_reads h i (l.length - i) (by omega)
  rw [cellsOf_drop encC_len, List.take_of_length_le (by rw [cellsOf_len encC_len, List.length_drop]; exact Nat.le_refl _)] at hrd
  have HRD := Lib.hid hrd
  have HI := Lib.hid (show ∀ ys : List Value, ys.length = (l.length + 1 - i) * 68 → ((cellsOf encC (l.take i) ++ ys).take (i * 68) ++ encC c ++ (cellsOf encC (l.take i) ++ ys).drop (i * 68 + (encC c).length)).take ((i + 1) * 68) ++ cellsOf encC (l.drop i) ++ ((cellsOf encC (l.take i) ++ ys).take (i * 68) ++ encC c ++ (cellsOf encC (l.take i) ++ ys).drop (i * 68 + (encC c).length)).drop ((i + 1) * 68 + (cellsOf encC (l.drop i)).length) = cellsOf encC (insAt l i c) from fun ys hy => by
    rw [insAt_cells, Nat.add_mul, Nat.one_mul]
    exact ins_grow (cellsOf encC (l.take i)) ys (encC c) (cellsOf encC (l.drop i)) (i * 68) 68 (by rw [cellsOf_len encC_len, List.length_take, Nat.min_eq_left (by omega)]) (encC_len c) (by rw [hy, cellsOf_len encC_len, List.length_drop]; omega))
  have HB := Lib.hid (show Reads w w.heap.size 68 (some ⟨gv, 0, none⟩) 1 (encC c) from ⟨by rw [encC_len], fun _ => ⟨_, rfl, hb.lt, fun j u hj => by rw [Addr.add_lit, Nat.zero_add, hb.cell, cellsOf_one, List.getElem?_toArray]; exact hj⟩⟩)
  have H1 := Lib.hid (encC_one c)
  have H2 := Lib.hid (cellsOf_all1 encC_one (l.drop i))
  obtain ⟨bb, hbb, hbl⟩ := czbC
  have HBB := Lib.hid hbb
  obtain ⟨D, hD⟩ : ∃ D, cellsOf encC (l.drop i) = D := ⟨_, rfl⟩
  obtain ⟨X, hX⟩ : ∃ X, cellsOf encC (insAt l i c) = X := ⟨_, rfl⟩
  obtain ⟨Y, hY⟩ : ∃ Y, cellsOf encC (l.take i) = Y := ⟨_, rfl⟩
  rw [hD, hX, hY] at HI
  rw [hD] at HRD H2
  rw [hY] at HO
  rw [hX]
  obtain ⟨n, hn⟩ : ∃ n, l.length = n := ⟨_, rfl⟩
  rw [hn] at HRD HI hi hl hroom hcap ⊢
  unfold maxLen at hcm
  clear h h1 hrd hb hbc hcs ht hn hD hX hY hbb
  have hs1 : ∀ W, (Instr.slice 22 (.slice (some ⟨g, 0, none⟩) n cap) (some (.int .i64 (i : Int))) none none).run Try.prog W = .ok (.slice (some ⟨g, i * 68, none⟩) (n - i) (cap - i)) W := fun W => by
    rw [tyCo.slice_from W (some ⟨g, 0, none⟩) n cap i (by omega)]
    unfold cutA
    rw [if_neg (by omega)]
    simp [Addr.add_lit]
  have hs2 : ∀ W, (Instr.slice 22 (.slice (some ⟨g, 0, none⟩) n cap) none (some (.int .i64 (i : Int))) none).run Try.prog W = .ok (.slice (some ⟨g, 0, none⟩) i cap) W := fun W => tyCo.slice_to W (some ⟨g, 0, none⟩) n cap i (by omega)
  have HS3 := Lib.hid (show ∀ W c', n + 1 ≤ c' → (Instr.slice 22 (.slice (some ⟨w.heap.size, 0, none⟩) (n + 1) c') (some (.int .i64 ((i : Int) + 1))) none none).run Try.prog W = .ok (.slice (some ⟨w.heap.size, (i + 1) * 68, none⟩) (n + 1 - (i + 1)) (c' - (i + 1))) W from fun W c' hc' => by
    have := tyCo.slice_from W (some ⟨w.heap.size, 0, none⟩) (n + 1) c' (i + 1) (by omega)
    rw [show ((i + 1 : Nat) : Int) = (i : Int) + 1 by omega] at this
    rw [this]
    unfold cutA
    rw [if_neg (by omega)]
    simp [Addr.add_lit])
  have HS4 := Lib.hid (show ∀ W c', n + 1 ≤ c' → (Instr.slice 22 (.slice (some ⟨w.heap.size, 0, none⟩) (n + 1) c') (some (.int .i64 (i : Int))) none none).run Try.prog W = .ok (.slice (some ⟨w.heap.size, i * 68, none⟩) (n + 1 - i) (c' - i)) W from fun W c' hc' => by
    rw [tyCo.slice_from W (some ⟨w.heap.size, 0, none⟩) (n + 1) c' i (by omega)]
    unfold cutA
    rw [if_neg (by omega)]
    simp [Addr.add_lit])
  have HS1 := Lib.hid hs1
  have hne1 : ((i : Int) == (n : Int)) = false := beq_eq_false_iff_ne.mpr (by omega)
  have hw1 : IntKind.i64.wrap ((n : Int) + 1) = (n : Int) + 1 := by rw [IntKind.wrap_i64]; omega
  have hw2 : IntKind.i64.wrap ((i : Int) + 1) = (i : Int) + 1 := by rw [IntKind.wrap_i64]; omega
  have hw3 : IntKind.i64.wrap ((n : Int) + 1 - (i : Int)) = ((n + 1 - i : Nat) : Int) := by rw [IntKind.wrap_i64]; omega
  have hgt : decide ((cap : Int) < (n : Int) + 1) = true := by simp; omega
  go_enter Try.func48, Try.ntmps48
  go_wp2_with (first
    | ((with_reducible refine at_appendg 40 34 39 ?_); refine tyCo.wpList_append_zeros rfl (.tmp 34) (.tmp 39) 3 .i64 isInt64 rfl czcC bb HBB.out hbl base g i cap Y rfl HO.out (n + 1 - i) rfl (by omega) (by omega) (by omega) ?_; intro w1 c1 ys l1 b1 r1
       rw [show i + (n + 1 - i) = n + 1 by omega] at r1 ⊢
       have R1 := Lib.hid r1
       have B1 := Lib.hid b1
       have YL := Lib.hid l1
       have hc1 : n + 1 ≤ c1 := by obtain ⟨_, _, _, h, _⟩ := own_blk r1; exact h
       have hs4 := fun W => HS4.out W c1 hc1
       clear r1 b1 l1)
    | ((with_reducible refine at_copyg 45 43 44 ?_); refine tyCo.wpList_copy_own rfl (.tmp 43) (.tmp 44) rfl w.heap.size w.heap.size (n + 1) c1 _ R1.out i (n + 1 - i) (c1 - i) 1 1 1 _ _ (encC c) rfl rfl (by omega) (by omega) (HB.out.below B1.out) H1.out (by omega) ?_; intro w2 o2 r2
       have R2 := Lib.hid r2
       have B2 := Lib.hid (B1.out.trans (o2.below (by simp)))
       clear r2 o2))
  clear hs1 hs2 hne1 hs4
  have HS5 := Lib.hid (fun W => HS3.out W c1 hc1)
  refine wp_region_held_drew (S := fun _ => True) (by kernel_rfl) trivial ?_
  intro hS
  refine wpAnyH_take (i := 0) (v := .slice (some ⟨w.heap.size, 0, none⟩) (n + 1) c1) rfl (by kernel_rfl) (by kernel_rfl) (by kernel_rfl) (fun _ _ _ h => h) (Or.inl ⟨by rfl, fun W _ => by go_simp; try with_reducible rfl⟩) hS ?_
  simp only [Act.put, List.getElem_toArray, List.getElem_cons_zero, List.setIfInBounds_toArray, List.set_cons_succ, List.set_cons_zero]
  refine wpAnyH_take (i := 1) (v := .int .i64 i) rfl (by kernel_rfl) (by kernel_rfl) (by kernel_rfl) (fun _ _ _ h => h) (Or.inl ⟨by rfl, fun W _ => by go_simp; try with_reducible rfl⟩) hS ?_
  simp only [Act.put, List.getElem_toArray, List.getElem_cons_zero, List.getElem_cons_succ, List.setIfInBounds_toArray, List.set_cons_succ, List.set_cons_zero]
  refine wpAnyH_take (i := 2) (v := .int .i64 1) rfl (by kernel_rfl) (by kernel_rfl) (by kernel_rfl) (fun _ _ _ h => h) (Or.inl ⟨by rfl, fun W _ => by go_simp; try with_reducible rfl⟩) hS ?_
  simp only [Act.put, List.getElem_toArray, List.getElem_cons_zero, List.getElem_cons_succ, List.setIfInBounds_toArray, List.set_cons_succ, List.set_cons_zero]
  refine wpAnyH_take (i := 3) (v := .int .i64 ((i : Int) + 1)) rfl (by kernel_rfl) (by kernel_rfl) (by kernel_rfl) (fun _ _ _ h => h) (Or.inl ⟨by rfl, fun W _ => by go_simp; try with_reducible rfl⟩) hS ?_
  simp only [Act.put, List.getElem_toArray, List.getElem_cons_zero, List.getElem_cons_succ, List.setIfInBounds_toArray, List.set_cons_succ, List.set_cons_zero]
  refine wpAnyH_take (i := 4) (v := .slice (some ⟨w.heap.size, (i + 1) * 68, none⟩) (n + 1 - (i + 1)) (c1 - (i + 1))) rfl (by kernel_rfl) (by kernel_rfl) (by kernel_rfl) (fun _ _ _ h => h) (Or.inl ⟨by rfl, fun W _ => by have h2 := HS5.out; go_simp; try with_reducible rfl⟩) hS ?_
  simp only [Act.put, List.getElem_toArray, List.getElem_cons_zero, List.getElem_cons_succ, List.setIfInBounds_toArray, List.set_cons_succ, List.set_cons_zero]
  refine wpAnyH_take (i := 5) (v := .slice (some ⟨g, 0, none⟩) n cap) rfl (by kernel_rfl) (by kernel_rfl) (by kernel_rfl) (fun _ _ _ h => h) (Or.inl ⟨by rfl, fun W _ => by go_simp; try with_reducible rfl⟩) hS ?_
  simp only [Act.put, List.getElem_toArray, List.getElem_cons_zero, List.getElem_cons_succ, List.setIfInBounds_toArray, List.set_cons_succ, List.set_cons_zero]
  refine wpAnyH_take (i := 6) (v := .int .i64 i) rfl (by kernel_rfl) (by kernel_rfl) (by kernel_rfl) (fun _ _ _ h => h) (Or.inl ⟨by rfl, fun W _ => by go_simp; try with_reducible rfl⟩) hS ?_
  simp only [Act.put, List.getElem_toArray, List.getElem_cons_zero, List.getElem_cons_succ, List.setIfInBounds_toArray, List.set_cons_succ, List.set_cons_zero]
  refine wpAnyH_take (i := 7) (v := .slice (some ⟨g, i * 68, none⟩) (n - i) (cap - i)) rfl (by kernel_rfl) (by kernel_rfl) (by kernel_rfl) (fun _ _ _ h => h) (Or.inl ⟨by rfl, fun W _ => by have h2 := HS1.out; go_simp; try with_reducible rfl⟩) hS ?_
  simp only [Act.put, List.getElem_toArray, List.getElem_cons_zero, List.getElem_cons_succ, List.setIfInBounds_toArray, List.set_cons_succ, List.set_cons_zero]
  refine wpAnyH_ready (rs := [8]) (by kernel_rfl) (by simp) ?_
  refine AllReadyH.cons rfl (fun Kq hK => ?_) AllReadyH.nil
  refine tyCo.step_copy_own rfl (.tmp 50) (.tmp 53) rfl w.heap.size w.heap.size (n + 1) c1 _ (own_drew R2.out) (i + 1) (n + 1 - (i + 1)) (c1 - (i + 1)) (n - i) (cap - i) (n - i) w.heap.size _ D rfl rfl (by omega) (by omega) (HRD.out.below B2.out.drew) H2.out (by omega) ?_
  intro w4 o4 r4
  have hi4 := HI.out ys YL.out
  rw [hi4] at r4
  have R4 := Lib.hid r4
  have B4 := Lib.hid (B2.out.drew.trans (o4.below (by simp)))
  clear o4 r4 hi4
  refine hK.out _ _ trivial (fun hS => ?_)
  clear hK Kq
  refine wpAnyH_done (by kernel_rfl) ?_ _
  go_wp2_with fail
  go_ret
  exact ⟨c1, rfl, R4.out, B4.out⟩
/-- Insert into an own row, wherever -/
theorem cInsert_own (base : Nat) (v : Value) (l : List CoinV) (i : Nat) (c : CoinV) (gv : Nat) (w : World) (h : w.ownsRow base 49 68 v l.length (cellsOf encC l)) (hi : i ≤ l.length) (hl : l.length ≤ 100000) (hb : Blk w gv 49 (cellsOf encC [c]).toArray) (hne : v.ownBlock ≠ some gv) (hbase : base ≤ w.heap.size) :
    Calls Try.prog 48 #[v, .int .i64 i, .slice (some ⟨gv, 0, none⟩) 1 1] w fun e w' => ∃ v', e = .returned v' ∧ w'.ownsRow base 49 68 v' (insAt l i c).length (cellsOf encC (insAt l i c)) ∧ w.grownBy w' v.ownBlock ∧ (v'.ownBlock = v.ownBlock ∨ v'.ownBlock = some w.heap.size) := by
  rcases Nat.lt_or_ge i l.length with h1 | h1
  · rcases h.2 with ⟨rfl, h0⟩ | ⟨g, cap, cur, rfl, hbg, hg, hnc, hcm, hcs, ht⟩
    · omega
    · rcases Nat.lt_or_ge cap (l.length + 1) with h2 | h2
      · refine (cInsert_grow base g cap i l c gv w h h1 h2 hl hb).mono ?_
        rintro e w' ⟨c', rfl, r, b⟩
        refine ⟨_, rfl, ?_, ⟨b.os, b.tape, b.output, b.size, fun k hk _ => b.block k hk⟩, .inr rfl⟩
        rw [insAt_len]
        exact own_mono2 r hbase
      · refine (cInsert_shift base g cap i l c gv w h h1 h2 hl hb (fun e => hne (by subst e; rfl))).mono ?_
        rintro e w' ⟨rfl, r, o⟩
        refine ⟨_, rfl, by rw [insAt_len]; exact r, ⟨o.os, o.tape, o.output, Nat.le_of_eq o.size.symm, fun k hk hk2 => o.block k (fun hm => hk2 (by rw [List.mem_singleton] at hm; subst hm; rfl))⟩, .inl rfl⟩
  · obtain rfl : i = l.length := by omega
    refine (cInsert_end base v l c gv w h hl hb hbase).mono ?_
    rintro e w' ⟨v', rfl, r, g', q⟩
    refine ⟨v', rfl, ?_, g', q⟩
    rw [insAt_len, insAt_cells, List.take_of_length_le (Nat.le_refl _), List.drop_of_length_le (Nat.le_refl _), cellsOf_nil, List.append_nil]
    exact r
end Go.Proofs.Ytkjgmhamglhggaa
