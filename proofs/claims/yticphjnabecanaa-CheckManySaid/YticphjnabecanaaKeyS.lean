/- slices.Clone at keys, keys.Sort. -/
import Derived.Test.YticphjnabecanaaKeyC
import Derived.Test.YticphjnabecanaaSortK
import Derived.Test.YticphjnabecanaaKLay
namespace Go.Proofs.Yticphjnabecanaa
open Go.RowKit Go.Sort
set_option maxRecDepth 20000 in
set_option maxHeartbeats 1000000 in
theorem clone_any (A : Option Addr) (c : Nat) (l : List K32) (B : Nat) (w : World) (hl : l.length ≤ 1000000) (hB : B ≤ w.heap.size) (h : RowIn encK 32 w B A c l) :
    Calls Try.prog 67 #[.slice A l.length c] w fun e w' => ∃ v, e = .returned v ∧ w'.ownsRow w.heap.size 26 32 v l.length (cellsOf encK l) ∧ Below w.heap.size w w' := by
  have HH := Lib.hid (h.reads encK_len)
  have H1 := Lib.hid (cellsOf_all1 encK_one l)
  have hn : A = none → l = [] := fun e => by
    cases l with
    | nil => rfl
    | cons x l => obtain ⟨g, o, e', _⟩ := h.cells (by simp); rw [e] at e'; cases e'
  clear h
  obtain ⟨xs, hxs⟩ : ∃ xs, cellsOf encK l = xs := ⟨_, rfl⟩
  have HXS := Lib.hid hxs
  rw [hxs] at HH H1 ⊢
  clear hxs
  have q22 : ∀ (w : World) (a : Option Addr) (n c n' c' : Nat), (binOp .eql 27 (.slice a n c) (.slice none n' c')).run Try.prog w = .ok (.bool a.isNone) w := fun w a n c n' c' => Lib.run_eql_slice_nil w _ _ a n c n' c' Try.underlying27
  rcases A with _ | ad
  · have hl0 := hn rfl
    subst hl0
    have hx0 : xs = [] := by rw [← HXS.out]; rfl
    subst hx0
    go_enter Try.func67, Try.ntmps67
    go_wp2_with fail
    go_ret
    exact ⟨_, rfl, ⟨rfl, .inl ⟨rfl, rfl⟩⟩, Below.refl _ _⟩
  · clear hn
    obtain ⟨n, hn⟩ : ∃ n, l.length = n := ⟨_, rfl⟩
    rw [hn] at HH hl ⊢
    clear hn HXS
    obtain ⟨i0, hi0⟩ : ∃ i0, Try.prog.info? 26 = some i0 := Option.isSome_iff_exists.1 (by kernel_rfl)
    have hz : i0.zero.map (·.cells.size) = some 32 ∧ i0.size = 32 ∧ i0.bytes = 32 := by
      have h1 : (Try.prog.info? 26).map (fun i => (i.zero.map (·.cells.size), i.size, i.bytes)) = some (some 32, 32, 32) := by kernel_rfl
      rw [hi0] at h1
      simpa using h1
    obtain ⟨hz1, hz2, hz3⟩ := hz
    obtain ⟨z, hz4, hz5⟩ := Option.map_eq_some_iff.1 hz1
    have HZ := Lib.hid (And.intro hi0 (And.intro hz4 (And.intro hz2 (And.intro hz3 hz5))))
    clear hz1 hz2 hz3 hi0 hz4 hz5
    go_enter Try.func67, Try.ntmps67
    go_wp2_with (at_builtin; refine wpList_append_any _ rfl _ _ 27 rfl w.heap.size 26 i0 z 32 32 Try.underlying27 HZ.out.1 HZ.out.2.1 HZ.out.2.2.1 HZ.out.2.2.2.1 HZ.out.2.2.2.2 (by omega) _ 0 [] rfl (World.ownsRow_made w #[] 0 (Nat.le_refl _) (Nat.zero_le _) (by simp)) B _ n c xs rfl ((HH.out.more hB).alloc (Nat.le_refl _) _ |> fun h => ⟨h.1, fun hp => let ⟨ad', e1, e2, e3⟩ := HH.out.2 hp; ⟨ad', e1, e2, let ⟨ad2, f1, f2, f3⟩ := h.2 hp; (Option.some.inj (e1.symm.trans f1)) ▸ f3⟩⟩) H1.out ?_ ?_ ?_ ?_)
    · unfold maxLen; omega
    · omega
    · simp
    · intro v' w1 hown hgrow _
      go_wp2_with fail
      go_ret
      refine ⟨v', rfl, by simpa using hown, ?_⟩
      exact ((Below.refl _ w).alloc (Nat.le_refl _) _).grown hgrow (by simp) (by intro k hk; simp [Value.ownBlock] at hk; omega)
theorem enters29 : ∀ args w, (callFunc 69 args).run Try.prog w = .ok (.enter 69 args) w := enters_of Try.func69 (by kernel_rfl) rfl
theorem orderAt (x y : K32) (W : World) : Calls Try.prog 69 (#[.agg (encK x).toArray, .agg (encK y).toArray] ++ #[]) W fun e w' => e = .returned (.int .i64 (cmpK x y)) ∧ ∃ q os', w' = grow (W.drewN q) os' := by
  rw [Array.append_empty, encK_arr, encK_arr]
  exact order_any x y W
theorem orderLays (blk off size : Nat) (w : World) : CmpLays Try.prog 69 #[] encK 32 cmpK blk off size w := fun _ _ _ _ x y => orderAt x y _
theorem isAggK : ∀ w, (isAgg 26).run Try.prog w = .ok true w := tyK.agg
theorem sortFunc_any (g cap : Nat) (base : Nat) (l : List K32) (w : World) (hl : l.length ≤ 1000000) (h : w.ownsRow base 26 32 (.slice (some ⟨g, 0, none⟩) l.length cap) l.length (cellsOf encK l)) :
    Calls Try.prog 68 #[.slice (some ⟨g, 0, none⟩) l.length cap, .func (.func 69) #[] #[]] w fun e w' =>
      e = .returned (.tuple #[]) ∧ w'.ownsRow base 26 32 (.slice (some ⟨g, 0, none⟩) l.length cap) l.length (cellsOf encK (sortK l)) ∧ Below base w w' := by
  obtain ⟨hH, hg, hb⟩ := holdsK_own encK_len (by omega) h
  refine (AnyQ.slices_SortFunc kSort 32 isAggK tyK.sizeOf encK encK_len encK_one cmpK swoK 69 #[] g 0 cap l.toArray w enters29 (orderLays _ _ _ _) hH hg (by simp; omega)).mono ?_
  rintro e w' ⟨rfl, d', n, os, hp, hs, rfl⟩
  have hd : d'.size = l.length := by simpa using hp.1
  have hsort : d'.toList = sortK l := sortK_of (by simpa using perm_list hp) (sorted_list hd hs)
  have := own_sortWorldK encK_len (by omega) h d' hd n os
  rw [hsort] at this
  exact ⟨rfl, this⟩
theorem sortFunc_none (w : World) : Calls Try.prog 68 #[.slice none 0 0, .func (.func 69) #[] #[]] w fun e w' => e = .returned (.tuple #[]) ∧ w' = w :=
  AnyF.slices_SortFunc_none kSort none 0 _ w
/-- the result: a row of the call's own that holds l -/
theorem sort_any (A : Option Addr) (c : Nat) (l : List K32) (B : Nat) (w : World) (hl : l.length ≤ 1000000) (hB : B ≤ w.heap.size) (h : RowIn encK 32 w B A c l) :
    Calls Try.prog 53 #[.slice A l.length c] w fun e w' => ∃ v, e = .returned v ∧ w'.ownsRow w.heap.size 26 32 v l.length (cellsOf encK (sortK l)) ∧ Below w.heap.size w w' := by
  have HC := Lib.hid (clone_any A c l B w hl hB h)
  have HS := Lib.hid (fun (g cap : Nat) W hW => sortFunc_any g cap w.heap.size l W hl hW)
  have H0 : l.length = 0 → sortK l = l := fun e => by rw [List.eq_nil_of_length_eq_zero e]; rfl
  have HH0 := Lib.hid H0
  clear H0 h
  obtain ⟨n, hn⟩ : ∃ n, l.length = n := ⟨_, rfl⟩
  rw [hn] at HC HS HH0 ⊢
  go_enter Try.func53, Try.ntmps53
  go_wp2_with fail
  refine HC.out.mono ?_
  rintro e w1 ⟨v, rfl, hown, b1⟩
  rcases hown.2 with ⟨rfl, h0⟩ | ⟨g, cap, cur, rfl, hb, hh, hn', hm, hs, ht⟩
  · have HO := Lib.hid hown
    clear hown
    go_wp2_with (go_at_call 68; refine (sortFunc_none _).mono ?_; rintro e w2 ⟨rfl, rfl⟩)
    go_ret
    exact ⟨_, rfl, by rw [HH0.out h0]; exact HO.out, b1⟩
  · have HO := Lib.hid hown
    clear hown hb hh hn' hm hs ht
    go_wp2_with (go_at_call 68; refine (HS.out g cap _ HO.out).mono ?_; rintro e w2 ⟨rfl, o2, b2⟩)
    go_ret
    exact ⟨_, rfl, o2, b1.trans b2⟩
end Go.Proofs.Yticphjnabecanaa
