/- slices.Clone at keys, keys.Sort. -/
import Derived.Test.YtiifamfophbbcaaKeyC
import Derived.Test.YtiifamfophbbcaaSortK
import Derived.Test.YtiifamfophbbcaaKLay
namespace Go.Proofs.Ytiifamfophbbcaa
open Go.RowKit Go.Sort
set_option maxRecDepth 20000 in
set_option maxHeartbeats 1000000 in
theorem clone_any (A : Option Addr) (c : Nat) (l : List K32) (B : Nat) (w : World) (hl : l.length ≤ 1000000) (hB : B ≤ w.heap.size) (h : RowIn encK 32 w B A c l) :
    Calls Try.prog 21 #[.slice A l.length c] w fun e w' => ∃ v, e = .returned v ∧ w'.ownsRow w.heap.size 24 32 v l.length (cellsOf encK l) ∧ Below w.heap.size w w' := by
  have HH := Lib.hid (h.reads encK_len)
  have H1 := Lib.hid (cellsOf_all1 encK_one l)
  have hn : A = none → l = [] := fun e => by
    cases l with
    | nil => rfl
    | cons x l => obtain ⟨g, o, e', _⟩ := h.cells (by simp); rw [e] at e'; cases e'
  clear h
  obtain ⟨xs, hxs⟩ : ∃ xs, cellsOf encK l = xs := ⟨_, rfl⟩
  have HXS := Lib.hid hxs
  rw [hxs] at HH H1 ⊢
  clear hxs
  have q22 : ∀ (w : World) (a : Option Addr) (n c n' c' : Nat), (binOp .eql 22 (.slice a n c) (.slice none n' c')).run Try.prog w = .ok (.bool a.isNone) w := fun w a n c n' c' => Lib.run_eql_slice_nil w _ _ a n c n' c' Try.underlying22
  rcases A with _ | ad
  · have hl0 := hn rfl
    subst hl0
    have hx0 : xs = [] := by rw [← HXS.out]; rfl
    subst hx0
    go_enter Try.func21, Try.ntmps21
    go_wp2_with fail
    go_ret
    exact ⟨_, rfl, ⟨rfl, .inl ⟨rfl, rfl⟩⟩, Below.refl _ _⟩
  · clear hn
    obtain ⟨n, hn⟩ : ∃ n, l.length = n := ⟨_, rfl⟩
    rw [hn] at HH hl ⊢
    clear hn HXS
    obtain ⟨i0, hi0⟩ : ∃ i0, Try.prog.info? 24 = some i0 := Option.isSome_iff_exists.1 (by kernel_rfl)
    have hz : i0.zero.map (·.cells.size) = some 32 ∧ i0.size = 32 ∧ i0.bytes = 32 := by
      have h1 : (Try.prog.info? 24).map (fun i => (i.zero.map (·.cells.size), i.size, i.bytes)) = some (some 32, 32, 32) := by kernel_rfl
      rw [hi0] at h1
      simpa using h1
    obtain ⟨hz1, hz2, hz3⟩ := hz
    obtain ⟨z, hz4, hz5⟩ := Option.map_eq_some_iff.1 hz1
    have HZ := Lib.hid (And.intro hi0 (And.intro hz4 (And.intro hz2 (And.intro hz3 hz5))))
    clear hz1 hz2 hz3 hi0 hz4 hz5
    go_enter Try.func21, Try.ntmps21
    go_wp2_with (at_builtin; refine wpList_append_any _ rfl _ _ 22 rfl w.heap.size 24 i0 z 32 32 Try.underlying22 HZ.out.1 HZ.out.2.1 HZ.out.2.2.1 HZ.out.2.2.2.1 HZ.out.2.2.2.2 (by omega) _ 0 [] rfl (World.ownsRow_made w #[] 0 (Nat.le_refl _) (Nat.zero_le _) (by simp)) B _ n c xs rfl ((HH.out.more hB).alloc (Nat.le_refl _) _ |> fun h => ⟨h.1, fun hp => let ⟨ad', e1, e2, e3⟩ := HH.out.2 hp; ⟨ad', e1, e2, let ⟨ad2, f1, f2, f3⟩ := h.2 hp; (Option.some.inj (e1.symm.trans f1)) ▸ f3⟩⟩) H1.out ?_ ?_ ?_ ?_)
    · unfold maxLen; omega
    · omega
    · simp
    · intro v' w1 hown hgrow _
      go_wp2_with fail
      go_ret
      refine ⟨v', rfl, by simpa using hown, ?_⟩
      exact ((Below.refl _ w).alloc (Nat.le_refl _) _).grown hgrow (by simp) (by intro k hk; simp [Value.ownBlock] at hk; omega)
theorem isAggK : ∀ w, (isAgg 24).run Try.prog w = .ok true w := tyK.agg
end Go.Proofs.Ytiifamfophbbcaa
