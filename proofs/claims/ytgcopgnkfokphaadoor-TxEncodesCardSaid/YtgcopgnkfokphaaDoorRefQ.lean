/- Plain: the document's rounds over a plain schedule come to what the ring of sixteen words comes to. No program is named here. -/
import Derived.Test.YtgcopgnkfokphaaDoorSumP
namespace Go.Proofs.YtgcopgnkfokphaaDoor
/-- the document's schedule -/
def wsch (f : Nat → BitVec 32) (i : Nat) : BitVec 32 :=
  if i < 16 then f i else wsch f (i - 16) + sg0 (wsch f (i - 15)) + wsch f (i - 7) + sg1 (wsch f (i - 2))
termination_by i
theorem wsch_lo (f : Nat → BitVec 32) (i : Nat) (h : i < 16) : wsch f i = f i := by rw [wsch, if_pos h]
theorem wsch_hi (f : Nat → BitVec 32) (i : Nat) (h : 16 ≤ i) : wsch f i = wsch f (i - 16) + sg0 (wsch f (i - 15)) + wsch f (i - 7) + sg1 (wsch f (i - 2)) := by
  rw [wsch, if_neg (by omega)]
def vstep (K W : Nat → BitVec 32) (v : Nat → BitVec 32) (i : Nat) : Nat → BitVec 32 := fun j => match j with
  | 0 => T1 (v 4) (v 5) (v 6) (v 7) (K i) (W i) + T2 (v 0) (v 1) (v 2)
  | 1 => v 0
  | 2 => v 1
  | 3 => v 2
  | 4 => v 3 + T1 (v 4) (v 5) (v 6) (v 7) (K i) (W i)
  | 5 => v 4
  | 6 => v 5
  | 7 => v 6
  | _ => 0
def vrun (K W : Nat → BitVec 32) (v : Nat → BitVec 32) : Nat → Nat → BitVec 32
  | 0 => v
  | n + 1 => vstep K W (vrun K W v n) n
/-- what the ring holds behind n rounds -/
def RingIs (f : Nat → BitVec 32) (r : Nat → BitVec 32) (n : Nat) : Prop := ∀ j, n ≤ j + 16 → j < max n 16 → r (j % 16) = wsch f j
theorem ring_step {f r : Nat → BitVec 32} {n : Nat} (h : RingIs f r n) : RingIs f (ring r n) (n + 1) ∧ ring r n (n % 16) = wsch f n := by
  by_cases h16 : 16 ≤ n
  · have hs : sched r n = wsch f n := by
      rw [wsch_hi f n h16]
      unfold sched
      have e0 := h (n - 16) (by omega) (by omega)
      have e1 := h (n - 15) (by omega) (by omega)
      have e2 := h (n - 7) (by omega) (by omega)
      have e3 := h (n - 2) (by omega) (by omega)
      rw [show (n - 16) % 16 = n % 16 by omega] at e0
      rw [e0, e1, e2, e3]
      show _ + (sg0 _ + _ + sg1 _) = _
      ac_rfl
    have hr : ring r n = upd r (n % 16) (sched r n) := by unfold ring; rw [if_pos h16]
    refine ⟨fun j h1 h2 => ?_, ?_⟩
    · rw [hr]
      unfold upd
      by_cases hj : j = n
      · subst hj; rw [if_pos rfl, hs]
      · rw [if_neg (by omega)]
        exact h j (by omega) (by omega)
    · rw [hr]; unfold upd; rw [if_pos rfl, hs]
  · have hr : ring r n = r := by unfold ring; rw [if_neg h16]
    refine ⟨fun j h1 h2 => ?_, ?_⟩
    · rw [hr]; exact h j (by omega) (by omega)
    · rw [hr]; exact h n (by omega) (by omega)
theorem run_is (K f h : Nat → BitVec 32) : ∀ n, RingIs f (((St.ofHash f h).run K n).w) n ∧ ∀ j, j < 8 → ((St.ofHash f h).run K n).out j = vrun K (wsch f) h n j
  | 0 => ⟨fun j _ h2 => by
      have hj : j < 16 := by omega
      show f (j % 16) = _
      rw [Nat.mod_eq_of_lt hj, wsch_lo f j hj], fun j hj => by
      match j, hj with
      | 0, _ => rfl
      | 1, _ => rfl
      | 2, _ => rfl
      | 3, _ => rfl
      | 4, _ => rfl
      | 5, _ => rfl
      | 6, _ => rfl
      | 7, _ => rfl⟩
  | n + 1 => by
    obtain ⟨hr, ho⟩ := run_is K f h n
    obtain ⟨hr1, hr2⟩ := ring_step hr
    have o0 : ((St.ofHash f h).run K n).a = _ := ho 0 (by omega)
    have o1 : ((St.ofHash f h).run K n).b = _ := ho 1 (by omega)
    have o2 : ((St.ofHash f h).run K n).c = _ := ho 2 (by omega)
    have o3 : ((St.ofHash f h).run K n).d = _ := ho 3 (by omega)
    have o4 : ((St.ofHash f h).run K n).e = _ := ho 4 (by omega)
    have o5 : ((St.ofHash f h).run K n).f = _ := ho 5 (by omega)
    have o6 : ((St.ofHash f h).run K n).g = _ := ho 6 (by omega)
    have o7 : ((St.ofHash f h).run K n).h = _ := ho 7 (by omega)
    refine ⟨hr1, fun j hj => ?_⟩
    show (((St.ofHash f h).run K n).step K n).out j = vstep K (wsch f) (vrun K (wsch f) h n) n j
    match j, hj with
    | 0, _ => show T1 _ _ _ _ _ _ + T2 _ _ _ = T1 _ _ _ _ _ _ + T2 _ _ _; rw [hr2, o0, o1, o2, o4, o5, o6, o7]
    | 1, _ => exact o0
    | 2, _ => exact o1
    | 3, _ => exact o2
    | 4, _ => show _ + T1 _ _ _ _ _ _ = _ + T1 _ _ _ _ _ _; rw [hr2, o3, o4, o5, o6, o7]
    | 5, _ => exact o4
    | 6, _ => exact o5
    | 7, _ => exact o6
/-- a block put to a hash, by the document's rounds -/
theorem compress_is (K f h : Nat → BitVec 32) (j : Nat) (hj : j < 8) : compressF K f h j = h j + vrun K (wsch f) h 64 j := by
  unfold compressF; rw [(run_is K f h 64).2 j hj]
end Go.Proofs.YtgcopgnkfokphaaDoor
