/- RefAll: RefQ, RefK, RefW, RefB, RefP, RefS, RefA, RefT, in one text. -/
import Derived.Test.YtimhophelecmjaaShaAll
import Derived.Test.YtimhophelecmjaaGenA
import Derived.Test.YtimhophelecmjaaProg
import Derived.Test.YtimhophelecmjaaWordA
import Derived.Deep.RegionHeld3
import Derived.StillTailTactics
import Derived.Deep.QuietTactic
import Derived.BigQuiet
/- Plain: the document's rounds over a plain schedule come to what the ring of sixteen words comes to. No program is named here. -/
namespace Go.Proofs.Ytimhophelecmjaa
/-- the document's schedule -/
def wsch (f : Nat → BitVec 32) (i : Nat) : BitVec 32 :=
  if i < 16 then f i else wsch f (i - 16) + sg0 (wsch f (i - 15)) + wsch f (i - 7) + sg1 (wsch f (i - 2))
termination_by i
theorem wsch_lo (f : Nat → BitVec 32) (i : Nat) (h : i < 16) : wsch f i = f i := by rw [wsch, if_pos h]
theorem wsch_hi (f : Nat → BitVec 32) (i : Nat) (h : 16 ≤ i) : wsch f i = wsch f (i - 16) + sg0 (wsch f (i - 15)) + wsch f (i - 7) + sg1 (wsch f (i - 2)) := by
  rw [wsch, if_neg (by omega)]
def vstep (K W : Nat → BitVec 32) (v : Nat → BitVec 32) (i : Nat) : Nat → BitVec 32 := fun j => match j with
  | 0 => T1 (v 4) (v 5) (v 6) (v 7) (K i) (W i) + T2 (v 0) (v 1) (v 2)
  | 1 => v 0
  | 2 => v 1
  | 3 => v 2
  | 4 => v 3 + T1 (v 4) (v 5) (v 6) (v 7) (K i) (W i)
  | 5 => v 4
  | 6 => v 5
  | 7 => v 6
  | _ => 0
def vrun (K W : Nat → BitVec 32) (v : Nat → BitVec 32) : Nat → Nat → BitVec 32
  | 0 => v
  | n + 1 => vstep K W (vrun K W v n) n
/-- what the ring holds behind n rounds -/
def RingIs (f : Nat → BitVec 32) (r : Nat → BitVec 32) (n : Nat) : Prop := ∀ j, n ≤ j + 16 → j < max n 16 → r (j % 16) = wsch f j
theorem ring_step {f r : Nat → BitVec 32} {n : Nat} (h : RingIs f r n) : RingIs f (ring r n) (n + 1) ∧ ring r n (n % 16) = wsch f n := by
  by_cases h16 : 16 ≤ n
  · have hs : sched r n = wsch f n := by
      rw [wsch_hi f n h16]
      unfold sched
      have e0 := h (n - 16) (by omega) (by omega)
      have e1 := h (n - 15) (by omega) (by omega)
      have e2 := h (n - 7) (by omega) (by omega)
      have e3 := h (n - 2) (by omega) (by omega)
      rw [show (n - 16) % 16 = n % 16 by omega] at e0
      rw [e0, e1, e2, e3]
      show _ + (sg0 _ + _ + sg1 _) = _
      ac_rfl
    have hr : ring r n = upd r (n % 16) (sched r n) := by unfold ring; rw [if_pos h16]
    refine ⟨fun j h1 h2 => ?_, ?_⟩
    · rw [hr]
      unfold upd
      by_cases hj : j = n
      · subst hj; rw [if_pos rfl, hs]
      · rw [if_neg (by omega)]
        exact h j (by omega) (by omega)
    · rw [hr]; unfold upd; rw [if_pos rfl, hs]
  · have hr : ring r n = r := by unfold ring; rw [if_neg h16]
    refine ⟨fun j h1 h2 => ?_, ?_⟩
    · rw [hr]; exact h j (by omega) (by omega)
    · rw [hr]; exact h n (by omega) (by omega)
theorem run_is (K f h : Nat → BitVec 32) : ∀ n, RingIs f (((St.ofHash f h).run K n).w) n ∧ ∀ j, j < 8 → ((St.ofHash f h).run K n).out j = vrun K (wsch f) h n j
  | 0 => ⟨fun j _ h2 => by
      have hj : j < 16 := by omega
      show f (j % 16) = _
      rw [Nat.mod_eq_of_lt hj, wsch_lo f j hj], fun j hj => by
      match j, hj with
      | 0, _ => rfl
      | 1, _ => rfl
      | 2, _ => rfl
      | 3, _ => rfl
      | 4, _ => rfl
      | 5, _ => rfl
      | 6, _ => rfl
      | 7, _ => rfl⟩
  | n + 1 => by
    obtain ⟨hr, ho⟩ := run_is K f h n
    obtain ⟨hr1, hr2⟩ := ring_step hr
    have o0 : ((St.ofHash f h).run K n).a = _ := ho 0 (by omega)
    have o1 : ((St.ofHash f h).run K n).b = _ := ho 1 (by omega)
    have o2 : ((St.ofHash f h).run K n).c = _ := ho 2 (by omega)
    have o3 : ((St.ofHash f h).run K n).d = _ := ho 3 (by omega)
    have o4 : ((St.ofHash f h).run K n).e = _ := ho 4 (by omega)
    have o5 : ((St.ofHash f h).run K n).f = _ := ho 5 (by omega)
    have o6 : ((St.ofHash f h).run K n).g = _ := ho 6 (by omega)
    have o7 : ((St.ofHash f h).run K n).h = _ := ho 7 (by omega)
    refine ⟨hr1, fun j hj => ?_⟩
    show (((St.ofHash f h).run K n).step K n).out j = vstep K (wsch f) (vrun K (wsch f) h n) n j
    match j, hj with
    | 0, _ => show T1 _ _ _ _ _ _ + T2 _ _ _ = T1 _ _ _ _ _ _ + T2 _ _ _; rw [hr2, o0, o1, o2, o4, o5, o6, o7]
    | 1, _ => exact o0
    | 2, _ => exact o1
    | 3, _ => exact o2
    | 4, _ => show _ + T1 _ _ _ _ _ _ = _ + T1 _ _ _ _ _ _; rw [hr2, o3, o4, o5, o6, o7]
    | 5, _ => exact o4
    | 6, _ => exact o5
    | 7, _ => exact o6
/-- a block put to a hash, by the document's rounds -/
theorem compress_is (K f h : Nat → BitVec 32) (j : Nat) (hj : j < 8) : compressF K f h j = h j + vrun K (wsch f) h 64 j := by
  unfold compressF; rw [(run_is K f h 64).2 j hj]
end Go.Proofs.Ytimhophelecmjaa
/- The reference's table K. -/
namespace Go.Proofs.Ytimhophelecmjaa
open Go.RowKit
theorem kU : uarr 64 kF = (kList.map fun x => Value.int .u32 (wv x)).toArray := by
  unfold uarr
  congr 1
set_option maxRecDepth 100000 in
set_option maxHeartbeats 1000000 in
theorem refK_any (w : World) : Calls Try.prog 28 #[] w fun e w' => e = .returned (.agg (uarr 64 kF)) ∧ Below w.heap.size w w' := by
  go_enter Try.func28, Try.ntmps28
  go_wp2_with (refine wpList_store_arr rfl 64 (.tmp 0) (.tmp 1) rfl rfl w.heap.size (uarr 64 kF) rfl (by rw [kU]; kernel_rfl) 64 _ (Blk.new w _ _) (by rw [uarr_size]; kernel_rfl) (by rw [uarr_size]; simp) (uarr_one _ _) ?_; intro w3 o3 b3)
  exact bodyPost_ret (results_cell_row rfl _ _ w.heap.size 64 _ (0, 0) _ rfl b3 Try.underlying64 rfl (by rw [uarr_size]; kernel_rfl)) rfl ⟨rfl, ((Below.refl _ _).alloc (Nat.le_refl _) _).trans (o3.below (by simp))⟩
end Go.Proofs.Ytimhophelecmjaa
/- The reference's Words: the numbers of bytes, put one by one behind a row of its own. -/
namespace Go.Proofs.Ytimhophelecmjaa
open Go.RowKit
theorem uarr_snoc (k : Nat) (f : Nat → BitVec 32) : (uarr (k + 1) f).toList = (uarr k f).toList ++ [.int .u32 (wv (f k))] := by
  simp [uarr, List.range_succ]
theorem beWord_wrap (a b c d : UInt8) : bits .or .u32 (bits .or .u32 (bits .or .u32 (IntKind.u32.wrap (IntKind.u32.wrap (a.toNat : Int) * 16777216)) (IntKind.u32.wrap (IntKind.u32.wrap (b.toNat : Int) * 65536))) (IntKind.u32.wrap (IntKind.u32.wrap (c.toNat : Int) * 256))) (IntKind.u32.wrap (d.toNat : Int)) = wv (beWord a b c d) := by
  simp only [IntKind.wrap_u32']
  exact beWord_eq a b c d
set_option maxRecDepth 20000 in
set_option maxHeartbeats 2000000 in
theorem refWords_any (s : ByteArray) (hs : s.size ≤ 1000000) (w : World) :
    Calls Try.prog 29 #[.string s] w fun e w' => ∃ v, e = .returned v ∧ w'.ownsRow w.heap.size 22 1 v (s.size / 4) (uarr (s.size / 4) (wordL s.data.toList)).toList ∧ Below w.heap.size w w' := by
  obtain ⟨m, hm⟩ : ∃ m, s.size / 4 = m := ⟨_, rfl⟩
  have hm4 : 4 * m ≤ s.size := by omega
  have hm4' : s.size < 4 * m + 4 := by omega
  rw [hm]
  clear hm
  go_enter Try.func29, Try.ntmps29
  go_wp2_with fail
  go_loopw [3, 4] (fun v i wr => ∃ k : Nat, k ≤ m ∧ i = .int .i64 ((4 * k : Nat) : Int) ∧ Hid (wr.ownsRow w.heap.size 22 1 v k (uarr k (wordL s.data.toList)).toList) ∧ Below w.heap.size w wr) (fun _ i _ => (s.size + 4) - (intOf i).toNat)
  case atStart =>
    refine ⟨0, by omega, rfl, Lib.hid ?_, (Below.refl _ _).alloc (Nat.le_refl _) _⟩
    have := World.ownsRow_lit (e := 22) (size := 1) (base := w.heap.size) w #[] 0 (Nat.le_refl _) (by unfold maxLen; omega) (by simp)
    simpa [uarr] using this
  case round =>
    obtain ⟨k, hk, rfl, HO, hb⟩ := hrel
    by_cases hlt : k < m
    · have i1 : ((4 * k : Nat) : Int) + 4 ≤ s.size := by omega
      have i0 : (0 : Int) ≤ ((4 * k : Nat) : Int) := by omega
      have i2 : ((4 * k : Nat) : Int) < s.size := by omega
      have i3 : ((4 * k : Nat) : Int) + 1 < s.size := by omega
      have i4 : ((4 * k : Nat) : Int) + 2 < s.size := by omega
      have i5 : ((4 * k : Nat) : Int) + 3 < s.size := by omega
      obtain ⟨p, hp⟩ : ∃ p : Nat, 4 * k = p := ⟨_, rfl⟩
      rw [hp] at i0 i1 i2 i3 i4 i5
      rw [hp]
      have HP := Lib.hid hp
      have HBB := Lib.hid hb
      clear hp hb
      have hb0 := Lib.hid (byte_getD s p (by omega))
      have hb1 := Lib.hid (byte_getD s (p + 1) (by omega))
      have hb2 := Lib.hid (byte_getD s (p + 2) (by omega))
      have hb3 := Lib.hid (byte_getD s (p + 3) (by omega))
      have ww1 : IntKind.i64.wrap ((p : Int) + 1) = (p : Int) + 1 := IntWalk.i64_in _ (by omega)
      have ww2 : IntKind.i64.wrap ((p : Int) + 2) = (p : Int) + 2 := IntWalk.i64_in _ (by omega)
      have ww3 : IntKind.i64.wrap ((p : Int) + 3) = (p : Int) + 3 := IntWalk.i64_in _ (by omega)
      have p1 : (0 : Int) ≤ (p : Int) + 1 := by omega
      have p2 : (0 : Int) ≤ (p : Int) + 2 := by omega
      have p3 : (0 : Int) ≤ (p : Int) + 3 := by omega
      have q1 : ((p : Int) + 1).toNat = p + 1 := by omega
      have q2 : ((p : Int) + 2).toNat = p + 2 := by omega
      have q3 : ((p : Int) + 3).toNat = p + 3 := by omega
      go_wp2_with fail
      refine wp_region_any (by kernel_rfl) ?_
      change wpAny _ _ _ _ _ _ _ (World.drew _)
      refine wpAny_take (i := 0) (v := ?_) rfl (by kernel_rfl) (by kernel_rfl) (by kernel_rfl) (fun _ _ _ h => h) (Or.inl ⟨by rfl, by intro W; go_simp; try with_reducible rfl⟩) ?_
      refine wpAny_take (i := 1) (v := ?_) rfl (by kernel_rfl) (by kernel_rfl) (by kernel_rfl) (fun _ _ _ h => h) (Or.inl ⟨by rfl, by intro W; go_simp; try with_reducible rfl⟩) ?_
      refine wpAny_take (i := 2) (v := ?_) rfl (by kernel_rfl) (by kernel_rfl) (by kernel_rfl) (fun _ _ _ h => h) (Or.inl ⟨by rfl, by intro W; go_simp; try with_reducible rfl⟩) ?_
      refine wpAny_take (i := 3) (v := ?_) rfl (by kernel_rfl) (by kernel_rfl) (by kernel_rfl) (fun _ _ _ h => h) (Or.inl ⟨by rfl, by intro W; go_simp; try with_reducible rfl⟩) ?_
      refine wpAny_take (i := 4) (v := ?_) rfl (by kernel_rfl) (by kernel_rfl) (by kernel_rfl) (fun _ _ _ h => h) (Or.inl ⟨by rfl, by intro W; go_simp; try with_reducible rfl⟩) ?_
      refine wpAny_take (i := 5) (v := ?_) rfl (by kernel_rfl) (by kernel_rfl) (by kernel_rfl) (fun _ _ _ h => h) (Or.inl ⟨by rfl, by intro W; go_simp; try with_reducible rfl⟩) ?_
      refine wpAny_take (i := 6) (v := ?_) rfl (by kernel_rfl) (by kernel_rfl) (by kernel_rfl) (fun _ _ _ h => h) (Or.inl ⟨by rfl, by intro W; go_simp; try with_reducible rfl⟩) ?_
      refine wpAny_take (i := 7) (v := ?_) rfl (by kernel_rfl) (by kernel_rfl) (by kernel_rfl) (fun _ _ _ h => h) (Or.inl ⟨by rfl, by intro W; go_simp; try with_reducible rfl⟩) ?_
      refine wpAny_take (i := 8) (v := ?_) rfl (by kernel_rfl) (by kernel_rfl) (by kernel_rfl) (fun _ _ _ h => h) (Or.inl ⟨by rfl, by intro W; go_simp; try with_reducible rfl⟩) ?_
      refine wpAny_take (i := 9) (v := ?_) rfl (by kernel_rfl) (by kernel_rfl) (by kernel_rfl) (fun _ _ _ h => h) (Or.inl ⟨by rfl, by intro W; go_simp; try with_reducible rfl⟩) ?_
      refine wpAny_take (i := 10) (v := ?_) rfl (by kernel_rfl) (by kernel_rfl) (by kernel_rfl) (fun _ _ _ h => h) (Or.inl ⟨by rfl, by intro W; go_simp; try with_reducible rfl⟩) ?_
      refine wpAny_take (i := 11) (v := ?_) rfl (by kernel_rfl) (by kernel_rfl) (by kernel_rfl) (fun _ _ _ h => h) (Or.inl ⟨by rfl, by intro W; go_simp; try with_reducible rfl⟩) ?_
      refine wpAny_take (i := 12) (v := ?_) rfl (by kernel_rfl) (by kernel_rfl) (by kernel_rfl) (fun _ _ _ h => h) (Or.inl ⟨by rfl, by intro W; go_simp; try with_reducible rfl⟩) ?_
      refine wpAny_take (i := 13) (v := ?_) rfl (by kernel_rfl) (by kernel_rfl) (by kernel_rfl) (fun _ _ _ h => h) (Or.inl ⟨by rfl, by intro W; go_simp; try with_reducible rfl⟩) ?_
      refine wpAny_take (i := 14) (v := ?_) rfl (by kernel_rfl) (by kernel_rfl) (by kernel_rfl) (fun _ _ _ h => h) (Or.inl ⟨by rfl, by intro W; go_simp; try with_reducible rfl⟩) ?_
      refine wpAny_take (i := 15) (v := ?_) rfl (by kernel_rfl) (by kernel_rfl) (by kernel_rfl) (fun _ _ _ h => h) (Or.inl ⟨by rfl, by intro W; go_simp; try with_reducible rfl⟩) ?_
      refine wpAny_take (i := 16) (v := ?_) rfl (by kernel_rfl) (by kernel_rfl) (by kernel_rfl) (fun _ _ _ h => h) (Or.inl ⟨by rfl, by intro W; go_simp; try with_reducible rfl⟩) ?_
      refine wpAny_take (i := 17) (v := ?_) rfl (by kernel_rfl) (by kernel_rfl) (by kernel_rfl) (fun _ _ _ h => h) (Or.inl ⟨by rfl, by intro W; go_simp; try with_reducible rfl⟩) ?_
      refine wpAny_take (i := 18) (v := ?_) rfl (by kernel_rfl) (by kernel_rfl) (by kernel_rfl) (fun _ _ _ h => h) (Or.inl ⟨by rfl, by intro W; go_simp; try with_reducible rfl⟩) ?_
      refine wpAny_take (i := 19) (v := ?_) rfl (by kernel_rfl) (by kernel_rfl) (by kernel_rfl) (fun _ _ _ h => h) (Or.inl ⟨by rfl, by intro W; go_simp; try with_reducible rfl⟩) ?_
      refine wpAny_take (i := 20) (v := ?_) rfl (by kernel_rfl) (by kernel_rfl) (by kernel_rfl) (fun _ _ _ h => h) (Or.inl ⟨by rfl, by intro W; go_simp; try with_reducible rfl⟩) ?_
      refine wpAny_take (i := 21) (v := ?_) rfl (by kernel_rfl) (by kernel_rfl) (by kernel_rfl) (fun _ _ _ h => h) (Or.inl ⟨by rfl, by intro W; go_simp; try with_reducible rfl⟩) ?_
      refine wpAny_take (i := 22) (v := ?_) rfl (by kernel_rfl) (by kernel_rfl) (by kernel_rfl) (fun _ _ _ h => h) (Or.inl ⟨by rfl, by intro W; go_simp; try with_reducible rfl⟩) ?_
      refine wpAny_take (i := 23) (v := ?_) rfl (by kernel_rfl) (by kernel_rfl) (by kernel_rfl) (fun _ _ _ h => h) (Or.inl ⟨by rfl, by intro W; go_simp; try with_reducible rfl⟩) ?_
      refine wpAny_take (i := 24) (v := ?_) rfl (by kernel_rfl) (by kernel_rfl) (by kernel_rfl) (fun _ _ _ h => h) (Or.inl ⟨by rfl, by intro W; go_simp; try with_reducible rfl⟩) ?_
      refine wpAny_take (i := 25) (v := ?_) rfl (by kernel_rfl) (by kernel_rfl) (by kernel_rfl) (fun _ _ _ h => h) (Or.inl ⟨by rfl, by intro W; go_simp; try with_reducible rfl⟩) ?_
      simp only [Act.put, List.getElem_toArray, List.getElem_cons_zero, List.getElem_cons_succ, List.setIfInBounds_toArray, List.set_cons_succ, List.set_cons_zero]
      refine wpAny_ready (rs := [26]) (by kernel_rfl) (by simp) ?_
      refine AllReady.cons rfl (fun K hK => ?_) AllReady.nil
      go_simp
      refine hK _ _ ?_
      clear hK K
      refine wpAny_ready (rs := [27]) (by kernel_rfl) (by simp) ?_
      refine AllReady.cons rfl (fun K hK => ?_) AllReady.nil
      refine step_append1g rfl (.tmp 13) (.tmp 39) 66 rfl w.heap.size 22 _ 4 Try.underlying66 u32_info rfl (by omega) u3 k _ (by rfl) (HO.out.drew.alloc _) wr.heap.size 1 _ (by rfl) (Blk.new wr.drew _ _) rfl (by omega) (by have := HBB.out.size; simp; omega) ?_
      intro v2 w2 o2 g2 _
      refine hK _ _ ?_
      clear hK K
      simp only [Act.put, List.getElem_toArray, List.getElem_cons_zero, List.getElem_cons_succ, List.setIfInBounds_toArray, List.set_cons_succ, List.set_cons_zero]
      refine wpAny_ready (rs := [28]) (by kernel_rfl) (by simp) ?_
      refine AllReady.cons rfl (fun K hK => ?_) AllReady.nil
      go_simp
      refine hK _ _ ?_
      clear hK K
      refine wpAny_done (by kernel_rfl) ?_ _
      rw [beWord_wrap] at o2
      have O2 := Lib.hid o2
      clear o2
      have B2 : Below w.heap.size w w2 := ((HBB.out.drew).alloc (by have := HBB.out.size; simpa using this) _).trans (grown_below g2 (HO.out.drew.alloc _) (by have := HBB.out.size; simp; omega))
      have B3 := Lib.hid B2
      clear B2 g2
      go_wp2_with fail
      go_roundw
      case rel =>
        refine ⟨k + 1, by omega, by rw [← HP.out]; go_num, Lib.hid ?_, B3.out⟩
        rw [uarr_snoc, show wordL s.data.toList k = beWord s[p] s[p + 1] s[p + 2] s[p + 3] by unfold wordL; rw [HP.out, hb0.out, hb1.out, hb2.out, hb3.out]]
        exact O2.out
      case measure => simp [intOf]; omega
    · have hkm : k = m := by omega
      subst hkm
      have hno : ¬ (((4 * k : Nat) : Int) + 4 ≤ s.size) := by omega
      clear hlt hk
      go_wp2
      go_ret
      exact ⟨_, rfl, HO.out, hb⟩
end Go.Proofs.Ytimhophelecmjaa
/- The reference's block: a block put to a hash, over a plain schedule. -/
namespace Go.Proofs.Ytimhophelecmjaa
open Go.RowKit
theorem vrun_succ (K W h : Nat → BitVec 32) (k : Nat) : vrun K W h (k + 1) = vstep K W (vrun K W h k) k := rfl
theorem uarr8_vstep (K W v : Nat → BitVec 32) (k : Nat) : uarr 8 (vstep K W v k) = #[.int .u32 (wv (T1 (v 4) (v 5) (v 6) (v 7) (K k) (W k) + T2 (v 0) (v 1) (v 2))), .int .u32 (wv (v 0)), .int .u32 (wv (v 1)), .int .u32 (wv (v 2)), .int .u32 (wv (v 3 + T1 (v 4) (v 5) (v 6) (v 7) (K k) (W k))), .int .u32 (wv (v 4)), .int .u32 (wv (v 5)), .int .u32 (wv (v 6))] := rfl
theorem row_cell {w : World} {base g cap k : Nat} {f : Nat → BitVec 32} (h : SRow w base (.slice (some ⟨g, 0, none⟩) k cap) k (uarr k f).toList) (j : Nat) (hj : j < k) : w.cell? ⟨g, j, none⟩ = some (.int .u32 (wv (f j))) :=
  h.cellAt j _ (by rw [Array.getElem?_toList, uarr_get _ _ _ hj])
theorem xor3 (x : BitVec 32) : bits BinOp.xor IntKind.u32 (bits BinOp.xor IntKind.u32 (wv (ror x 7)) (wv (ror x 18))) (wv x / 8) = wv (sg0 x) := by
  rw [u32_xor, show (8 : Int) = 2 ^ 3 from rfl, u32_shr, u32_xor]; rfl
theorem xor10 (x : BitVec 32) : bits BinOp.xor IntKind.u32 (bits BinOp.xor IntKind.u32 (wv (ror x 17)) (wv (ror x 19))) (wv x / 1024) = wv (sg1 x) := by
  rw [u32_xor, show (1024 : Int) = 2 ^ 10 from rfl, u32_shr, u32_xor]; rfl
set_option maxRecDepth 100000 in
set_option maxHeartbeats 4000000 in
theorem refBlock_any (h : Nat → BitVec 32) (s : ByteArray) (hs : s.size = 64) (w : World) :
    Calls Try.prog 26 #[.agg (uarr 8 h), .string s] w fun e w' => e = .returned (.agg (uarr 8 (compressF kF (wordL s.data.toList) h))) ∧ Below w.heap.size w w' := by
  have HS := Lib.hid hs
  obtain ⟨f, hf⟩ : ∃ f, wordL s.data.toList = f := ⟨_, rfl⟩
  rw [hf]
  have HF := Lib.hid hf
  clear hs hf
  go_enter Try.func26, Try.ntmps26
  go_wp2_with fail
  have B0 : Below w.heap.size w ((w.alloc (.cells (uarr 8 h) 60)).alloc (.cells (uarr 8 (fun _ => 0)) 60)) := ((Below.refl _ _).alloc (Nat.le_refl _) _).alloc (by simp) _
  refine (refK_any _).mono ?_
  rintro e w1 ⟨rfl, b1⟩
  have KH := Lib.hid (below_blk b1 ((Blk.new w 60 (uarr 8 h)).alloc _) (by simp; omega))
  have KR := Lib.hid (below_blk b1 (blk_new (w := w.alloc (.cells (uarr 8 h) 60)) 60 (uarr 8 (fun _ => 0)) (g := w.heap.size + 1) (by simp)) (by simp))
  have B1 := B0.trans (b1.mono (by simp; omega))
  clear b1 B0
  go_wp2_with ((with_reducible refine at_store 5 19 ?_); refine wpList_store_arr rfl 64 (.tmp 5) (.tmp 19) rfl rfl w1.heap.size (uarr 64 kF) rfl rfl 64 _ (Blk.new w1 _ _) (by rw [uarr_size]; kernel_rfl) (by rw [uarr_size]; simp) (uarr_one _ _) ?_; intro w2 o2 b2)
  have B2 := (B1.alloc B1.size _).trans (o2.below (by simp; exact B1.size))
  have KK := Lib.hid b2
  have e1 : w1.heap.size ∉ [w1.heap.size] → False := by simp
  clear e1
  have lh := KH.out.lt
  have lr := KR.out.lt
  replace KH := Lib.hid (o2.blk (KH.out.alloc _) (by simp; omega))
  replace KR := Lib.hid (o2.blk (KR.out.alloc _) (by simp; omega))
  obtain ⟨gk, hgk⟩ : ∃ g, w1.heap.size = g := ⟨_, rfl⟩
  rw [hgk] at KK lh lr
  rw [hgk]
  clear o2 b2 hgk B1
  refine (refWords_any s (by have := HS.out; omega) _).mono ?_
  rintro e w3 ⟨v, rfl, k3, b3⟩
  rw [show s.size / 4 = 16 by have := HS.out; omega, HF.out] at k3
  have lk := KK.out.lt
  obtain ⟨B, hB⟩ : ∃ B, w2.heap.size = B := ⟨_, rfl⟩
  rw [hB] at k3 b3 lk
  have B3 : Below w.heap.size w w3 := B2.trans (b3.mono (by have := B2.size; omega))
  have lB : B ≤ w3.heap.size := by have := b3.size; omega
  replace KH := Lib.hid (below_blk b3 KH.out (by omega))
  replace KR := Lib.hid (below_blk b3 KR.out (by omega))
  replace KK := Lib.hid (below_blk b3 KK.out (by omega))
  have K3 := Lib.hid k3
  have lw : w.heap.size ≤ B := by have := B2.size; omega
  clear k3 b3 hB B2
  have HB3 := Lib.hid B3
  clear B3
  go_wp2_with fail
  go_loopw [6, 7] (fun v i wr => ∃ k : Nat, 16 ≤ k ∧ k ≤ 64 ∧ i = .int .i64 k ∧ Hid (SRow wr B v k (uarr k (wsch f)).toList ∧ Blk wr w.heap.size 60 (uarr 8 h) ∧ Blk wr (w.heap.size + 1) 60 (uarr 8 (fun _ => 0)) ∧ Blk wr gk 64 (uarr 64 kF) ∧ Below w.heap.size w wr ∧ B ≤ wr.heap.size))
    (fun _ i _ => 64 - (intOf i).toNat)
  case atStart =>
    refine ⟨16, by omega, by omega, rfl, Lib.hid ⟨?_, KH.out, KR.out, KK.out, HB3.out, lB⟩⟩
    rw [uarr_congr 16 (wsch f) f (fun i hi => wsch_lo f i hi)]
    exact SRow.of_own K3.out
  case round =>
    clear K3 KH KR KK HB3
    obtain ⟨k, hk0, hk, rfl, HK⟩ := hrel
    by_cases hlt : k < 64
    · obtain ⟨g, cap, rfl, hgB, hg⟩ := HK.out.1.form (by omega)
      have c15 := row_cell HK.out.1 (k - 15) (by omega)
      have c2 := row_cell HK.out.1 (k - 2) (by omega)
      have c16 := row_cell HK.out.1 (k - 16) (by omega)
      have c7 := row_cell HK.out.1 (k - 7) (by omega)
      have hw := Lib.hid (wsch_hi f k hk0)
      obtain ⟨x15, hx⟩ : ∃ x, wsch f (k - 15) = x := ⟨_, rfl⟩
      rw [hx] at c15 hw
      clear hx
      obtain ⟨x2, hx⟩ : ∃ x, wsch f (k - 2) = x := ⟨_, rfl⟩
      rw [hx] at c2 hw
      clear hx
      obtain ⟨x16, hx⟩ : ∃ x, wsch f (k - 16) = x := ⟨_, rfl⟩
      rw [hx] at c16 hw
      clear hx
      obtain ⟨x7, hx⟩ : ∃ x, wsch f (k - 7) = x := ⟨_, rfl⟩
      rw [hx] at c7 hw
      clear hx
      have a1 : (0 : Int) ≤ (k : Int) - 15 := by omega
      have a2 : (0 : Int) ≤ (k : Int) - 2 := by omega
      have a3 : (0 : Int) ≤ (k : Int) - 16 := by omega
      have a4 : (0 : Int) ≤ (k : Int) - 7 := by omega
      have a5 : (k : Int) - 15 < k := by omega
      have a6 : (k : Int) - 2 < k := by omega
      have a7 : (k : Int) - 16 < k := by omega
      have a8 : (k : Int) - 7 < k := by omega
      have t1 : ((k : Int) - 15).toNat = k - 15 := by omega
      have t2 : ((k : Int) - 2).toNat = k - 2 := by omega
      have t3 : ((k : Int) - 16).toNat = k - 16 := by omega
      have t4 : ((k : Int) - 7).toNat = k - 7 := by omega
      have a9 : (16 : Int) ≤ k := by omega
      have a10 : (7 : Int) ≤ k := by omega
      have y3 : IntKind.i64.wrap ((k : Int) - 16) = (k : Int) - 16 := IntWalk.i64_in _ (by omega)
      have y4 : IntKind.i64.wrap ((k : Int) - 7) = (k : Int) - 7 := IntWalk.i64_in _ (by omega)
      go_wp2_with fail
      refine (refRot_any x15 7 (by omega) (by omega) _).mono ?_
      rintro e wa ⟨rfl, na, rfl⟩
      go_wp2_with fail
      refine (refRot_any x15 18 (by omega) (by omega) _).mono ?_
      rintro e wb ⟨rfl, nb, rfl⟩
      go_wp2_with fail
      refine (refRot_any x2 17 (by omega) (by omega) _).mono ?_
      rintro e wc ⟨rfl, nc, rfl⟩
      go_wp2_with fail
      refine (refRot_any x2 19 (by omega) (by omega) _).mono ?_
      rintro e wd ⟨rfl, nd, rfl⟩
      go_wp2_with fail
      rw [xor3, xor10]
      obtain ⟨s0, hs0⟩ : ∃ x, sg0 x15 = x := ⟨_, rfl⟩
      obtain ⟨s1, hs1⟩ : ∃ x, sg1 x2 = x := ⟨_, rfl⟩
      rw [hs0, hs1] at hw
      rw [hs0, hs1]
      clear hs0 hs1
      obtain ⟨nn, hnn⟩ : ∃ x, na + nb + nc + nd = x := ⟨_, rfl⟩
      rw [hnn]
      clear hnn
      have z1 := u32_addw x16 s0
      have z2 := u32_addw (x16 + s0) x7
      have z3 := u32_addw (x16 + s0 + x7) s1
      have HK2 := Lib.hid HK.out
      clear a1 a2 a5 a6 t1 t2 c15 c2
      go_region_held3 (fun w' => w'.cell? ⟨g, k - 16, none⟩ = some (.int .u32 (wv x16)) ∧ w'.cell? ⟨g, k - 7, none⟩ = some (.int .u32 (wv x7)))
        (first | go_keep | exact ⟨(hkeep (k - 16) (by omega)).trans ((World.cell?_alloc_lt _ _ ⟨g, k - 16, none⟩ hg).trans c16), (hkeep (k - 7) (by omega)).trans ((World.cell?_alloc_lt _ _ ⟨g, k - 7, none⟩ hg).trans c7)⟩)
        ((refine step_append1s rfl (.tmp 52) (.tmp 68) 66 rfl B 22 _ 4 Try.underlying66 u32_info rfl (by omega) g cap k _ (by rfl) (((HK2.out.1.drewN nn).drew).alloc _) wr.heap.size 1 _ (by rfl) (Blk.new (wr.drewN nn).drew _ _) rfl (by omega) (by have := HK2.out.2.2.2.2.2; simp; omega) ?_; intro v2 w2 o2 g2 hkeep))
      rw [← hw.out, ← uarr_snoc] at o2
      clear z1 z2 z3
      have O2 := Lib.hid o2
      have G2 := Lib.hid g2
      clear o2 g2 hkeep
      go_wp2_with fail
      go_roundw
      case rel =>
        have gg := G2.out
        have szl := HK2.out.2.2.2.2.2
        have b2 : Below B wr w2 := ((below_drewN (Below.refl B wr) (nn + 1))).trans ((Below.refl _ _).alloc (by simpa using szl) _ |>.trans gg)
        exact ⟨k + 1, by omega, by omega, by go_num, Lib.hid ⟨O2.out, below_blk b2 HK2.out.2.1 (by omega), below_blk b2 HK2.out.2.2.1 (by omega), below_blk b2 HK2.out.2.2.2.1 (by omega), HK2.out.2.2.2.2.1.trans (b2.mono lw), by have := b2.size; omega⟩⟩
      case measure => simp [intOf]; omega
    · have hk64 : k = 64 := by omega
      subst hk64
      obtain ⟨gw, cap, rfl, hgB, hgw⟩ := HK.out.1.form (by omega)
      clear hk hk0 hlt
      have KH2 := Lib.hid HK.out.2.1
      have HW := Lib.hid (fun (j : Nat) (hj : j < 64) => row_cell HK.out.1 j hj)
      have KR2 := Lib.hid HK.out.2.2.1
      have KK2 := Lib.hid HK.out.2.2.2.1
      have HB2 := Lib.hid HK.out.2.2.2.2.1
      have lr2 := HK.out.2.2.2.2.2
      have lh2 := KH2.out.lt
      have lq2 := KR2.out.lt
      clear HK
      go_wp2_with (first
        | ((with_reducible refine at_load 2 ?_); refine wpList_load_row rfl 60 (.tmp 2) rfl w.heap.size rfl 60 (uarr 8 h) (0, 0) _ KH2.out Try.underlying60 rfl (by rw [uarr_size]; kernel_rfl) ?_)
        | ((with_reducible refine at_store 12 70 ?_); refine wpList_store_arr rfl 60 (.tmp 12) (.tmp 70) rfl rfl wr.heap.size (uarr 8 h) rfl rfl 60 _ (Blk.new wr _ _) (by rw [uarr_size]; kernel_rfl) (by rw [uarr_size]; simp) (uarr_one _ _) ?_; intro w4 o4 b4))
      obtain ⟨gv, hgv⟩ : ∃ g, wr.heap.size = g := ⟨_, rfl⟩
      have KV := Lib.hid b4
      replace KH2 := Lib.hid (o4.blk (KH2.out.alloc _) (by simp; omega))
      replace KR2 := Lib.hid (o4.blk (KR2.out.alloc _) (by simp; omega))
      replace KK2 := Lib.hid (o4.blk (KK2.out.alloc _) (by simp; omega))
      replace HW := Lib.hid (fun (j : Nat) (hj : j < 64) => (o4.cell (p := ⟨gw, j, none⟩) (by simp; omega)).trans ((World.cell?_alloc_lt wr _ ⟨gw, j, none⟩ hgw).trans (HW.out j hj)))
      have HB4 := Lib.hid ((HB2.out.alloc HB2.out.size _).trans (o4.below (by simp; exact HB2.out.size)))
      rw [hgv] at KV hgw lr2 lh2 lq2
      rw [hgv]
      clear o4 b4 HB2 hgv
      go_loopw [13] (fun i wq => ∃ k : Nat, k ≤ 64 ∧ i = .int .i64 k ∧ Hid ((∀ j, j < 64 → wq.cell? ⟨gw, j, none⟩ = some (.int .u32 (wv (wsch f j)))) ∧ Blk wq w.heap.size 60 (uarr 8 h) ∧ Blk wq (w.heap.size + 1) 60 (uarr 8 (fun _ => 0)) ∧ Blk wq gk 64 (uarr 64 kF) ∧ Blk wq gv 60 (uarr 8 (vrun kF (wsch f) h k)) ∧ Below w.heap.size w wq)) (fun i _ => 64 - (intOf i).toNat)
      case atStart => exact ⟨0, by omega, rfl, Lib.hid ⟨HW.out, KH2.out, KR2.out, KK2.out, KV.out, HB4.out⟩⟩
      case round =>
        clear KH2 KR2 KK2 KV HB4 HW
        obtain ⟨k, hk, rfl, HK⟩ := hrel
        obtain ⟨v, hv⟩ : ∃ v, vrun kF (wsch f) h k = v := ⟨_, rfl⟩
        rw [hv] at HK
        have HV := Lib.hid hv
        clear hv
        by_cases hlt : k < 64
        · have cv : ∀ j, j < 8 → wr.cell? ⟨gv, j, none⟩ = some (.int .u32 (wv (v j))) := fun j hj => by rw [HK.out.2.2.2.2.1.cell j, uarr_get _ _ _ hj]
          have c0 := cv 0 (by omega)
          have c1 := cv 1 (by omega)
          have c2 := cv 2 (by omega)
          have c3 := cv 3 (by omega)
          have c4 := cv 4 (by omega)
          have c5 := cv 5 (by omega)
          have c6 := cv 6 (by omega)
          have c7 := cv 7 (by omega)
          clear cv
          have ck : wr.cell? ⟨gk, k, none⟩ = some (.int .u32 (wv (kF k))) := by rw [HK.out.2.2.2.1.cell k, uarr_get _ _ _ hlt]
          have cw := HK.out.1 k hlt
          obtain ⟨kc, hkc⟩ : ∃ x, kF k = x := ⟨_, rfl⟩
          rw [hkc] at ck
          have HKC := Lib.hid hkc
          obtain ⟨xw, hxw⟩ : ∃ x, wsch f k = x := ⟨_, rfl⟩
          rw [hxw] at cw
          have HXW := Lib.hid hxw
          clear hkc hxw
          have i0 : (0 : Int) ≤ k := by omega
          have i1 : (k : Int) < 64 := by omega
          go_wp2_with fail
          have hq : ∀ (W : World) (x : BitVec 32) (n : Nat) (m : Int), m = n → 1 ≤ n → n ≤ 31 → ∀ nq, Calls Try.prog 30 #[.int .u32 (wv x), .int .i64 m] (W.drewN nq) fun e w'' => e = .returned (.int .u32 (wv (ror x n))) ∧ ∃ m, w'' = W.drewN m := fun W x n m hm h1 h2 nq => by
            subst hm
            exact (refRot_any x n h1 h2 (W.drewN nq)).mono fun _ _ ⟨he, m, hm⟩ => ⟨he, nq + m, by rw [hm, World.drewN_drewN]⟩
          have Q1 := Lib.hid (fun nq => hq wr (v 4) 6 6 rfl (by omega) (by omega) nq)
          have Q2 := Lib.hid (fun nq => hq wr (v 4) 11 11 rfl (by omega) (by omega) nq)
          have Q3 := Lib.hid (fun nq => hq wr (v 4) 25 25 rfl (by omega) (by omega) nq)
          have HQ := Lib.hid hq
          clear hq
          have x1 := u32_xor (ror (v 4) 6) (ror (v 4) 11)
          have x2 := u32_xor (ror (v 4) 6 ^^^ ror (v 4) 11) (ror (v 4) 25)
          have x3 := u32_addw (v 7) (ror (v 4) 6 ^^^ ror (v 4) 11 ^^^ ror (v 4) 25)
          have x4 := u32_and (v 4) (v 5)
          have x5 : bits BinOp.xor IntKind.u32 (if IntKind.u32.signed = true then -1 else IntKind.u32.max) (wv (v 4)) = wv (~~~ v 4) := u32_not (v 4)
          have x6 := u32_and (~~~ v 4) (v 6)
          have x7 := u32_xor (v 4 &&& v 5) (~~~ v 4 &&& v 6)
          have x8 := u32_addw (v 7 + (ror (v 4) 6 ^^^ ror (v 4) 11 ^^^ ror (v 4) 25)) (v 4 &&& v 5 ^^^ ~~~ v 4 &&& v 6)
          have x9 := u32_addw (v 7 + (ror (v 4) 6 ^^^ ror (v 4) 11 ^^^ ror (v 4) 25) + (v 4 &&& v 5 ^^^ ~~~ v 4 &&& v 6)) kc
          have xa := u32_addw (v 7 + (ror (v 4) 6 ^^^ ror (v 4) 11 ^^^ ror (v 4) 25) + (v 4 &&& v 5 ^^^ ~~~ v 4 &&& v 6) + kc) xw
          go_quiet ((first
            | (go_at_call 30; with_reducible exact Q1.out _)
            | (go_at_call 30; with_reducible exact Q2.out _)
            | (go_at_call 30; with_reducible exact Q3.out _)))
          rw [show v 7 + (ror (v 4) 6 ^^^ ror (v 4) 11 ^^^ ror (v 4) 25) + (v 4 &&& v 5 ^^^ ~~~ v 4 &&& v 6) + kc + xw = T1 (v 4) (v 5) (v 6) (v 7) kc xw from rfl]
          clear x1 x2 x3 x4 x5 x6 x7 x8 x9 xa ck cw Q1 Q2 Q3
          obtain ⟨t1, ht1⟩ : ∃ t, T1 (v 4) (v 5) (v 6) (v 7) kc xw = t := ⟨_, rfl⟩
          rw [ht1]
          have HT1 := Lib.hid ht1
          clear ht1
          have HKz := Lib.hid (And.intro (fun (j : Nat) (hj : j < 64) => (show (wr.drewN nq).cell? ⟨gw, j, none⟩ = _ from HK.out.1 j hj)) (And.intro (HK.out.2.1.drewN nq) (And.intro (HK.out.2.2.1.drewN nq) (And.intro (HK.out.2.2.2.1.drewN nq) (And.intro (HK.out.2.2.2.2.1.drewN nq) (below_drewN HK.out.2.2.2.2.2 nq))))))
          obtain ⟨wz, hwz⟩ : ∃ wz, wr.drewN nq = wz := ⟨_, rfl⟩
          rw [hwz] at HKz
          have d0 : wz.cell? ⟨gv, 0, none⟩ = some (.int .u32 (wv (v 0))) := by rw [← hwz]; exact c0
          have d1 : wz.cell? ⟨gv, 1, none⟩ = some (.int .u32 (wv (v 1))) := by rw [← hwz]; exact c1
          have d2 : wz.cell? ⟨gv, 2, none⟩ = some (.int .u32 (wv (v 2))) := by rw [← hwz]; exact c2
          have d3 : wz.cell? ⟨gv, 3, none⟩ = some (.int .u32 (wv (v 3))) := by rw [← hwz]; exact c3
          have d4 : wz.cell? ⟨gv, 4, none⟩ = some (.int .u32 (wv (v 4))) := by rw [← hwz]; exact c4
          have d5 : wz.cell? ⟨gv, 5, none⟩ = some (.int .u32 (wv (v 5))) := by rw [← hwz]; exact c5
          have d6 : wz.cell? ⟨gv, 6, none⟩ = some (.int .u32 (wv (v 6))) := by rw [← hwz]; exact c6
          rw [hwz]
          clear hwz c0 c1 c2 c3 c4 c5 c6 c7 HK
          have Q1 := Lib.hid (fun nq => HQ.out wz (v 0) 2 2 rfl (by omega) (by omega) nq)
          have Q2 := Lib.hid (fun nq => HQ.out wz (v 0) 13 13 rfl (by omega) (by omega) nq)
          have Q3 := Lib.hid (fun nq => HQ.out wz (v 0) 22 22 rfl (by omega) (by omega) nq)
          have x1 := u32_xor (ror (v 0) 2) (ror (v 0) 13)
          have x2 := u32_xor (ror (v 0) 2 ^^^ ror (v 0) 13) (ror (v 0) 22)
          have x3 := u32_and (v 0) (v 1)
          have x4 := u32_and (v 0) (v 2)
          have x5 := u32_xor (v 0 &&& v 1) (v 0 &&& v 2)
          have x6 := u32_and (v 1) (v 2)
          have x7 := u32_xor (v 0 &&& v 1 ^^^ v 0 &&& v 2) (v 1 &&& v 2)
          have x8 := u32_addw (ror (v 0) 2 ^^^ ror (v 0) 13 ^^^ ror (v 0) 22) (v 0 &&& v 1 ^^^ v 0 &&& v 2 ^^^ v 1 &&& v 2)
          go_wp2_with fail
          go_quiet ((first
            | (go_at_call 30; with_reducible exact Q1.out _)
            | (go_at_call 30; with_reducible exact Q2.out _)
            | (go_at_call 30; with_reducible exact Q3.out _)))
          rw [show (ror (v 0) 2 ^^^ ror (v 0) 13 ^^^ ror (v 0) 22) + (v 0 &&& v 1 ^^^ v 0 &&& v 2 ^^^ v 1 &&& v 2) = T2 (v 0) (v 1) (v 2) from rfl]
          clear x1 x2 x3 x4 x5 x6 x7 x8 Q1 Q2 Q3
          obtain ⟨t2, ht2⟩ : ∃ t, T2 (v 0) (v 1) (v 2) = t := ⟨_, rfl⟩
          rw [ht2]
          have HT2 := Lib.hid ht2
          clear ht2
          have y1 := u32_add t1 t2
          have y2 := u32_add (v 3) t1
          have HKq := Lib.hid (And.intro (fun (j : Nat) (hj : j < 64) => (show (wz.drewN nq).cell? ⟨gw, j, none⟩ = _ from HKz.out.1 j hj)) (And.intro (HKz.out.2.1.drewN nq) (And.intro (HKz.out.2.2.1.drewN nq) (And.intro (HKz.out.2.2.2.1.drewN nq) (And.intro (HKz.out.2.2.2.2.1.drewN nq) (below_drewN HKz.out.2.2.2.2.2 nq))))))
          obtain ⟨v9, hv9⟩ : ∃ x, vstep kF (wsch f) v k = x := ⟨_, rfl⟩
          have hvs := Lib.hid ((vrun_succ kF (wsch f) h k).trans (by rw [HV.out, hv9] : _ = v9))
          have hu := Lib.hid (((congrArg (uarr 8) hv9.symm).trans (uarr8_vstep kF (wsch f) v k)).trans (by rw [HKC.out, HXW.out, HT1.out, HT2.out] : _ = #[.int .u32 (wv (t1 + t2)), .int .u32 (wv (v 0)), .int .u32 (wv (v 1)), .int .u32 (wv (v 2)), .int .u32 (wv (v 3 + t1)), .int .u32 (wv (v 4)), .int .u32 (wv (v 5)), .int .u32 (wv (v 6))]))
          clear hv9
          go_wp2_with ((with_reducible refine at_store 12 153 ?_); rw [← hu.out]; refine wpList_store_arr rfl 60 (.tmp 12) (.tmp 153) rfl rfl gv (uarr 8 v9) rfl rfl 60 _ HKq.out.2.2.2.2.1 (by rw [uarr_size]; kernel_rfl) (by rw [uarr_size, uarr_size]) (uarr_one _ _) ?_; intro w5 o5 b5)
          clear y1 y2 d0 d1 d2 d3 d4 d5 d6
          go_roundw
          case rel =>
            refine ⟨k + 1, by omega, by go_num, Lib.hid ⟨fun j hj => (o5.cell (p := ⟨gw, j, none⟩) (by simp; omega)).trans (HKq.out.1 j hj), o5.blk HKq.out.2.1 (by simp; omega), o5.blk HKq.out.2.2.1 (by simp; omega), o5.blk HKq.out.2.2.2.1 (by simp; omega), ?_, HKq.out.2.2.2.2.2.trans (o5.below (by simp; omega))⟩⟩
            rw [hvs.out]
            exact b5
          case measure => simp [intOf]; omega
        · have hk64 : k = 64 := by omega
          subst hk64
          clear hlt hk
          have HKd := Lib.hid (And.intro HK.out.2.1 (And.intro HK.out.2.2.1 (And.intro HK.out.2.2.2.2.1 HK.out.2.2.2.2.2)))
          clear HK
          go_wp2_with fail
          go_loopw [18] (fun i wq => ∃ k : Nat, k ≤ 8 ∧ i = .int .i64 k ∧ Hid (Blk wq w.heap.size 60 (uarr 8 (fun j => if j < k then h j + v j else h j)) ∧ Blk wq (w.heap.size + 1) 60 (uarr 8 (fun _ => 0)) ∧ Blk wq gv 60 (uarr 8 v) ∧ Below w.heap.size w wq)) (fun i _ => 8 - (intOf i).toNat)
          case atStart =>
            refine ⟨0, by omega, rfl, Lib.hid ⟨?_, HKd.out.2.1, HKd.out.2.2.1, HKd.out.2.2.2⟩⟩
            rw [uarr_congr 8 (fun j => if j < 0 then h j + v j else h j) h (fun i _ => by simp)]
            exact HKd.out.1
          case round =>
            clear HKd
            obtain ⟨k, hk, rfl, HK⟩ := hrel
            by_cases hlt : k < 8
            · have ch : wr.cell? ⟨w.heap.size, k, none⟩ = some (.int .u32 (wv (h k))) := by
                rw [HK.out.1.cell k, uarr_get _ _ _ hlt, if_neg (by omega)]
              have cv : wr.cell? ⟨gv, k, none⟩ = some (.int .u32 (wv (v k))) := by rw [HK.out.2.2.1.cell k, uarr_get _ _ _ hlt]
              have i0 : (0 : Int) ≤ k := by omega
              have i1 : (k : Int) < 8 := by omega
              have x1 := u32_addw (h k) (v k)
              go_wp2_with fail
              refine wp_region_still_tail 9 (by kernel_rfl) (by kernel_rfl) ?_
              simp only [List.take_succ_cons, List.take_zero, List.drop_succ_cons, List.drop_zero]
              repeat still_step
              refine wpStill_nil ?_
              change wpList _ _ _ _ _ wr.drew
              go_wp2_with (refine wpList_store_cell rfl 22 (.tmp 166) (.tmp 165) rfl rfl w.heap.size k (.int .u32 (wv (h k + v k))) rfl rfl rfl 60 _ HK.out.1.drew (by rw [uarr_size]; exact hlt) (by kernel_rfl) ?_; intro w6 o6 b6)
              clear x1 ch cv
              go_roundw
              case rel =>
                have b7 : Blk w6 w.heap.size 60 (uarr 8 (fun j => if j < k + 1 then h j + v j else h j)) := by
                  rw [uarr_set] at b6
                  rw [uarr_congr 8 (fun j => if j < k + 1 then h j + v j else h j) (upd (fun j => if j < k then h j + v j else h j) k (h k + v k)) (fun i _ => ?_)]
                  · exact b6
                  · unfold upd
                    by_cases h1 : i = k
                    · subst h1; simp
                    · rw [if_neg h1]
                      show (if i < k + 1 then h i + v i else h i) = (if i < k then h i + v i else h i)
                      by_cases h2 : i < k
                      · rw [if_pos h2, if_pos (by omega)]
                      · rw [if_neg h2, if_neg (by omega)]
                have P := Lib.hid (And.intro b7 (And.intro (o6.blk HK.out.2.1.drew (by simp)) (And.intro (o6.blk HK.out.2.2.1.drew (by simp; omega)) (HK.out.2.2.2.drew.trans (o6.below (by simp))))))
                first | exact ⟨k + 1, by omega, by go_num, P⟩ | ((repeat apply Exists.intro); exact ⟨⟨k + 1, by omega, by go_num, P⟩, rfl⟩)
              case measure => simp [intOf]; omega
            · have hk8 : k = 8 := by omega
              subst hk8
              clear hlt hk
              have hfin : uarr 8 (fun j => if j < 8 then h j + v j else h j) = uarr 8 (compressF kF f h) := uarr_congr 8 _ _ (fun i hi => by
                show (if i < 8 then h i + v i else h i) = _
                rw [if_pos hi, compress_is kF f h i hi, HV.out])
              have HH := Lib.hid (show Blk wr w.heap.size 60 (uarr 8 (compressF kF f h)) by rw [← hfin]; exact HK.out.1)
              have HR := Lib.hid HK.out.2.1
              have HBz := Lib.hid HK.out.2.2.2
              clear HK hfin
              go_wp2_with (first
                | ((with_reducible refine at_load 2 ?_); refine wpList_load_row rfl 60 (.tmp 2) rfl w.heap.size rfl 60 (uarr 8 (compressF kF f h)) (0, 0) _ HH.out Try.underlying60 rfl (by rw [uarr_size]; kernel_rfl) ?_)
                | ((with_reducible refine at_store 4 167 ?_); refine wpList_store_arr rfl 60 (.tmp 4) (.tmp 167) rfl rfl (w.heap.size + 1) (uarr 8 (compressF kF f h)) rfl rfl 60 _ HR.out (by rw [uarr_size]; kernel_rfl) (by rw [uarr_size, uarr_size]) (uarr_one _ _) ?_; intro w7 o7 b7))
              exact bodyPost_ret (results_cell_row rfl _ _ (w.heap.size + 1) 60 _ (0, 0) _ rfl b7 Try.underlying60 rfl (by rw [uarr_size]; kernel_rfl)) rfl ⟨rfl, HBz.out.trans (o7.below (by simp))⟩
end Go.Proofs.Ytimhophelecmjaa
/- The reference's Pad: bytes, a mark, noughts, and how many bits they are. -/
namespace Go.Proofs.Ytimhophelecmjaa
open Go.RowKit
theorem pad_info : (Try.prog.info? 5).map (fun i => (i.zero, i.size, i.bytes)) = some (some (.int .u8 0), 1, 1) := by kernel_rfl
def lenV : Value → Nat
  | .slice _ n _ => n
  | _ => 0
theorem conv_srow {w : World} {base : Nat} {v : Value} {n : Nat} {l : List UInt8} (h : SRow w base v n (Lib.byteCells l)) :
    (convert 59 9 v).run Try.prog w = .ok (.string ⟨l.toArray⟩) w := by
  have hn : n = l.length := by have := h.1; simpa [Lib.byteCells] using this.symm
  subst hn
  rcases h.2 with ⟨rfl, hn⟩ | ⟨g, cap, rfl, _, _, _, _, hc, _⟩
  · have hl : l = [] := List.eq_nil_of_length_eq_zero hn
    subst hl
    rw [run_convert_bytes_string w _ _ 5 none 0 0 Try.underlying59 Try.underlying5 Try.underlying9]
    rfl
  · refine run_convert_bytes_back (P := Try.prog) w 59 9 5 ⟨g, 0, none⟩ cap l Try.underlying59 Try.underlying5 Try.underlying9 (fun j hj => ?_)
    rw [show (⟨g, 0, none⟩ : Addr).add j = ⟨g, j, none⟩ by unfold Addr.add; split <;> simp_all]
    exact hc j _ (by simp [Lib.byteCells, hj])
set_option maxRecDepth 20000 in
set_option maxHeartbeats 2000000 in
theorem refPad_any (s : ByteArray) (hs : s.size ≤ 1000000) (w : World) :
    Calls Try.prog 25 #[.string s] w fun e w' => e = .returned (.string ⟨(padL s.data.toList).toArray⟩) ∧ Below w.heap.size w w' := by
  have hcv := run_bytes_of_string (P := Try.prog) w 9 59 5 s Try.underlying9 Try.underlying59 Try.underlying5
  have hc1 := grownCap_ge w s.size 0 5
  have hc2 := grownCap_le_maxLen w s.size 0 5 (by unfold maxLen; omega)
  obtain ⟨cap, hcap⟩ : ∃ cap, grownCap w s.size 0 5 = cap := ⟨_, rfl⟩
  rw [hcap] at hcv hc1 hc2
  clear hcap
  have S0 := SRow.of_bytes w 5 s w.heap.size cap (Nat.le_refl _) hc1 hc2
  have B0 : Below w.heap.size w (w.drew.alloc (.cells (bytesRow s cap) 5 ((bytesRow s cap).size, (bytesRow s cap).size + 1))) := (Below.refl _ _).drew.alloc (by simp) _
  obtain ⟨w0, hw0⟩ : ∃ w0, w.drew.alloc (.cells (bytesRow s cap) 5 ((bytesRow s cap).size, (bytesRow s cap).size + 1)) = w0 := ⟨_, rfl⟩
  rw [hw0] at hcv S0 B0
  clear hw0 hc1 hc2
  have HL := Lib.hid (show s.data.toList.length = s.size from Array.length_toList)
  obtain ⟨z, hz⟩ : ∃ z, padZ s.data.toList.length = z := ⟨_, rfl⟩
  have hz2 : z = (119 - s.size % 64) % 64 := by rw [← hz, HL.out]; rfl
  have hz3 : z < 64 := by rw [hz2]; omega
  have HZ := Lib.hid hz
  have HZ2 := Lib.hid hz2
  have HS0 := Lib.hid S0
  have HB0 := Lib.hid B0
  clear hz hz2 S0 B0
  go_enter Try.func25, Try.ntmps25
  go_wp2_with (at_builtin; refine wpList_append1s rfl (.tmp 8) (.tmp 9) 59 rfl w.heap.size 5 _ 1 Try.underlying59 pad_info rfl (by omega) _ _ _ rfl (HS0.out.alloc _) w0.heap.size 1 (.int .u8 128) rfl (Blk.new w0 _ _) rfl (by omega) (by have := HB0.out.size; simp; omega) ?_; intro v1 w1 s1 b1)
  clear hcv
  have S1 : Hid (SRow w1 w.heap.size v1 (s.size + 1 + 0) (Lib.byteCells (padHead s.data.toList 0))) := Lib.hid (by
    have e : Lib.byteCells (padHead s.data.toList 0) = (s.data.toList.map fun b => Value.int .u8 (b.toNat : Int)) ++ [.int .u8 128] := by simp [padHead, Lib.byteCells]
    rw [e]; exact s1)
  have B1 : Below w.heap.size w w1 := (HB0.out.alloc HB0.out.size _).trans b1
  clear s1 b1
  go_loopw [3] (fun v wr => ∃ k : Nat, k ≤ z ∧ Hid (SRow wr w.heap.size v (s.size + 1 + k) (Lib.byteCells (padHead s.data.toList k))) ∧ Below w.heap.size w wr) (fun v _ => (s.size + 1 + z) - lenV v)
  case atStart => exact ⟨0, by omega, S1, B1⟩
  case round =>
    clear S1 B1
    obtain ⟨k, hk, HS, hb⟩ := hrel
    obtain ⟨A, c, rfl, _⟩ := HS.out.reads
    have hn64 : (s.size + 1 + k) % 64 = 56 ↔ k = z := by have := HZ2.out; omega
    obtain ⟨n, hn⟩ : ∃ n, s.size + 1 + k = n := ⟨_, rfl⟩
    rw [hn] at hn64 HS
    rw [hn]
    have HN := Lib.hid hn
    have hn9 : n ≤ 2000000 := by omega
    clear hn
    by_cases hlt : k < z
    · have ht : (((n : Int) % 64) != 56) = true := by rw [bne_iff_ne]; omega
      clear hn64
      have HB := Lib.hid hb
      clear hb
      go_wp2_with (at_builtin; refine wpList_append1s rfl (.tmp 15) (.tmp 16) 59 rfl w.heap.size 5 _ 1 Try.underlying59 pad_info rfl (by omega) _ _ _ rfl (HS.out.alloc _) wr.heap.size 1 (.int .u8 0) rfl (Blk.new wr _ _) rfl (by omega) (by have := HB.out.size; simp; omega) ?_; intro v2 w2 s2 b2)
      go_roundw
      case rel =>
        refine ⟨k + 1, by omega, Lib.hid ?_, (HB.out.alloc HB.out.size _).trans b2⟩
        rw [padHead_succ, show s.size + 1 + (k + 1) = n + 1 by have := HN.out; omega, show Lib.byteCells (padHead s.data.toList k ++ [0]) = Lib.byteCells (padHead s.data.toList k) ++ [.int .u8 0] by simp [Lib.byteCells]]
        exact s2
      case measure =>
        obtain ⟨A2, c2, rfl, _⟩ := s2.reads
        have := HN.out
        simp [lenV]; omega
    · have hkz : k = z := by omega
      have ht : (((n : Int) % 64) != 56) = false := by rw [bne_eq_false_iff_eq]; omega
      have HS2 : Hid (SRow wr w.heap.size (.slice A n c) (n + 0) (Lib.byteCells (padTo s.data.toList 0))) := Lib.hid (by
        rw [show padTo s.data.toList 0 = padHead s.data.toList (padZ s.data.toList.length) by simp [padTo], HZ.out, ← hkz]; exact HS.out)
      subst hkz
      clear hn64 hlt hk HS
      go_wp2_with fail
      go_loopw [3, 5] (fun v i wq => ∃ m : Nat, m ≤ 8 ∧ i = .int .i64 ((m : Int) - 1) ∧ Hid (SRow wq w.heap.size v (n + (8 - m)) (Lib.byteCells (padTo s.data.toList (8 - m)))) ∧ Below w.heap.size w wq) (fun _ i _ => (intOf i + 1).toNat)
      case atStart => exact ⟨8, by omega, rfl, HS2, hb⟩
      case round =>
        obtain ⟨m, hm, rfl, HT, hb2⟩ := hrel
        by_cases hl : 0 < m
        · obtain ⟨q, rfl⟩ : ∃ q, m = q + 1 := ⟨m - 1, by omega⟩
          have hq1 : ((q + 1 : Nat) : Int) - 1 = q := by omega
          rw [hq1]
          clear hq1
          have HB2 := Lib.hid hb2
          clear hb2
          have i0 : (0 : Int) ≤ 8 * (q : Int) := by omega
          have i1 : 8 * (q : Int) ≤ 64 := by omega
          have hlen := lenB_eq s.data.toList.length (8 - (q + 1))
          rw [HL.out, show 56 - 8 * (8 - (q + 1)) = 8 * q by omega] at hlen
          have HLEN := Lib.hid hlen
          clear hlen
          go_wp2_with (at_builtin; refine wpList_append1s rfl (.tmp 26) (.tmp 32) 59 rfl w.heap.size 5 _ 1 Try.underlying59 pad_info rfl (by omega) _ _ _ rfl (HT.out.alloc _) wr.heap.size 1 _ rfl (Blk.new wr _ _) rfl (by omega) (by have := HB2.out.size; simp; omega) ?_; intro v2 w2 s2 b2)
          go_roundw
          case rel =>
            refine ⟨q, by omega, by go_num, Lib.hid ?_, (HB2.out.alloc HB2.out.size _).trans b2⟩
            rw [byteCells_snoc _ (lenB s.data.toList.length (8 - (q + 1))) _ (by rw [HL.out, HLEN.out, Int.mul_comm]), ← padTo_succ, show 8 - (q + 1) + 1 = 8 - q by omega, show n + (8 - (q + 1)) + 1 = n + (8 - q) by omega] at s2
            exact s2
          case measure => simp [intOf]
        · have hm0 : m = 0 := by omega
          subst hm0
          have hcv := conv_srow HT.out
          clear hl hm
          go_wp2
          go_ret
          exact ⟨rfl, hb2⟩
end Go.Proofs.Ytimhophelecmjaa
/- The reference's Sum. -/
namespace Go.Proofs.Ytimhophelecmjaa
open Go.RowKit
theorem hU : uarr 8 hF = (hList.map fun x => Value.int .u32 (wv x)).toArray := by
  unfold uarr
  congr 1
set_option maxRecDepth 100000 in
set_option maxHeartbeats 4000000 in
theorem refSum_any (s : ByteArray) (hs : s.size ≤ 1000000) (w : World) :
    Calls Try.prog 21 #[.string s] w fun e w' => e = .returned (.agg (bytesA (sumL s.data.toList))) ∧ Below w.heap.size w w' := by
  go_enter Try.func21, Try.ntmps21
  go_wp2_with ((with_reducible refine at_store 3 8 ?_); refine wpList_store_arr rfl 60 (.tmp 3) (.tmp 8) rfl rfl (w.heap.size + 1) (uarr 8 hF) rfl (by rw [hU]; kernel_rfl) 60 _ (blk_new (g := w.heap.size + 1) _ _ (by simp)) (by rw [uarr_size]; kernel_rfl) (by rw [uarr_size]; simp) (uarr_one _ _) ?_; intro w2 o2 b2)
  have B2 : Below w.heap.size w w2 := (((Below.refl _ _).alloc (Nat.le_refl _) _).alloc (by simp) _).trans (o2.below (by simp))
  have KH := Lib.hid b2
  have KR := Lib.hid (o2.blk ((Blk.new w 24 (bytesA (List.replicate 32 0))).alloc _) (by simp))
  clear o2 b2
  refine (refPad_any s hs _).mono ?_
  rintro e w3 ⟨rfl, b3⟩
  have hl : s.data.toList.length = s.size := Array.length_toList
  obtain ⟨P, hP⟩ : ∃ P, padL s.data.toList = P := ⟨_, rfl⟩
  rw [hP]
  obtain ⟨p, hp⟩ : ∃ p : ByteArray, (⟨P.toArray⟩ : ByteArray) = p := ⟨_, rfl⟩
  rw [hp]
  have hpl : p.data.toList = P := by rw [← hp]
  have hps : p.size = P.length := by rw [← hp]; simp [ByteArray.size]
  have hpm : P.length % 64 = 0 := by rw [← hP]; exact padL_mod s.data.toList
  have hpb : p.size ≤ 2000000 := by
    rw [hps, ← hP]; have := padTo_len s.data.toList 8; have := padZ_lt s.data.toList.length; unfold padL; omega
  obtain ⟨m, hm⟩ : ∃ m, p.size = 64 * m := ⟨p.size / 64, by omega⟩
  have HP := Lib.hid hP
  have HPL := Lib.hid hpl
  have HPM := Lib.hid hm
  have HPS := Lib.hid hps
  have hmb : m ≤ 40000 := by omega
  have B3 := B2.trans (b3.mono B2.size)
  replace KH := Lib.hid (below_blk b3 KH.out KH.out.lt)
  replace KR := Lib.hid (below_blk b3 KR.out KR.out.lt)
  have HB := Lib.hid B3
  clear hP hp hpl hps hpm hm b3 B2 B3 hl hpb
  go_wp2_with fail
  go_loopw [5] (fun i wr => ∃ k : Nat, k ≤ m ∧ i = .int .i64 ((64 * k : Nat) : Int) ∧ Hid (Blk wr (w.heap.size + 1) 60 (uarr 8 (hashN P k)) ∧ Blk wr w.heap.size 24 (bytesA (List.replicate 32 0)) ∧ Below w.heap.size w wr))
    (fun i _ => (64 * m + 64) - (intOf i).toNat)
  case atStart => exact ⟨0, by omega, rfl, Lib.hid ⟨KH.out, KR.out, HB.out⟩⟩
  case round =>
    clear KH KR HB
    obtain ⟨k, hk, rfl, HK⟩ := hrel
    obtain ⟨q, hq⟩ : ∃ q : Nat, 64 * k = q := ⟨_, rfl⟩
    rw [hq]
    have HQ := Lib.hid hq
    have hq9 : q ≤ 3000000 := by omega
    by_cases hlt : k < m
    · have hc : ∀ j, j < 8 → wr.cell? ⟨w.heap.size + 1, j, none⟩ = some (.int .u32 (wv (hashN P k j))) := fun j hj => by rw [HK.out.1.cell, uarr_get _ _ _ hj]
      have c0 := hc 0 (by omega)
      have c1 := hc 1 (by omega)
      have c2 := hc 2 (by omega)
      have c3 := hc 3 (by omega)
      have c4 := hc 4 (by omega)
      have c5 := hc 5 (by omega)
      have c6 := hc 6 (by omega)
      have c7 := hc 7 (by omega)
      clear hc
      have hle : (q : Int) + 64 ≤ p.size := by have := HPM.out; omega
      have i2 : IntKind.i64.wrap ((q : Int) + 64) = (q : Int) + 64 := IntWalk.i64_in _ (by omega)
      have hsl : ∀ W, (Instr.slice 9 (.string p) (some (.int .i64 (q : Int))) (some (.int .i64 ((q : Int) + 64))) none).run Try.prog W = .ok (.string (p.extract q (q + 64))) W := fun W => by
        have e2 : ((q : Int) + 64).toNat = q + 64 := by omega
        rw [run_slice_string_if W 9 p .i64 .i64 _ _ Try.underlying9, if_pos (by omega), e2, if_pos (by omega)]
        rfl
      clear hq
      go_wp2_with fail
      refine wp_region_still_tail 6 (by kernel_rfl) (by kernel_rfl) ?_
      simp only [List.take_succ_cons, List.take_zero, List.drop_succ_cons, List.drop_zero]
      repeat still_step
      refine wpStill_nil ?_
      change wpList _ _ _ _ _ wr.drew
      rw [← uarr8 (hashN P k)]
      clear c0 c1 c2 c3 c4 c5 c6 c7 hsl i2
      go_wp2_with fail
      have hbs : (p.extract q (q + 64)).size = 64 := by rw [ByteArray.size_extract]; omega
      refine (refBlock_any _ _ hbs _).mono ?_
      rintro e w5 ⟨rfl, b5⟩
      have hbl : (p.extract q (q + 64)).data.toList = blockL P k := by
        rw [extract_list, HPL.out, show q + 64 - q = 64 by omega, ← HQ.out]; rfl
      rw [hbl, show compressF kF (wordL (blockL P k)) (hashN P k) = hashN P (k + 1) from rfl]
      have B5 : Below w.heap.size w w5 := HK.out.2.2.drew.trans (b5.mono (by have := HK.out.2.2.size; simpa using this))
      have J1 := Lib.hid (below_blk b5 HK.out.1.drew HK.out.1.lt)
      have J2 := Lib.hid (below_blk b5 HK.out.2.1.drew HK.out.2.1.lt)
      clear b5 hbl hbs
      go_wp2_with ((with_reducible refine at_store 3 24 ?_); refine wpList_store_arr rfl 60 (.tmp 3) (.tmp 24) rfl rfl (w.heap.size + 1) (uarr 8 (hashN P (k + 1))) rfl rfl 60 _ J1.out (by rw [uarr_size]; kernel_rfl) (by rw [uarr_size, uarr_size]) (uarr_one _ _) ?_; intro w6 o6 b6)
      go_roundw
      case rel =>
        have Z := Lib.hid (And.intro b6 (And.intro (o6.blk J2.out (by simp)) (B5.trans (o6.below (by simp)))))
        exact ⟨k + 1, by omega, by rw [← HQ.out]; go_num, Z⟩
      case measure => have := HQ.out; simp [intOf]; omega
    · have hno : ¬ ((q : Int) + 64 ≤ p.size) := by have := HPM.out; omega
      have hkm : k = P.length / 64 := by have := HPM.out; have := HPS.out; omega
      have HSL := Lib.hid (show hashBytes (hashN P k) = sumL s.data.toList by unfold sumL; rw [HP.out, hkm])
      obtain ⟨H, hH⟩ : ∃ H, hashN P k = H := ⟨_, rfl⟩
      rw [hH] at HK HSL
      clear hkm hH hlt hk hq
      have KH := Lib.hid HK.out.1
      have KR := Lib.hid HK.out.2.1
      have HB := Lib.hid HK.out.2.2
      clear HK
      go_wp2_with ((with_reducible refine at_store 6 25 ?_); refine wpList_store_arr rfl 24 (.tmp 6) (.tmp 25) rfl rfl wr.heap.size (bytesA (List.replicate 32 0)) rfl rfl 24 _ (Blk.new wr _ (bytesA (List.replicate 32 0))) (by rw [bytesA_size, List.length_replicate]; kernel_rfl) rfl (bytesA_one _) ?_; intro w7 o7 b7)
      have lr := KR.out.lt
      have lh := KH.out.lt
      replace KH := Lib.hid (o7.blk (KH.out.alloc _) (by simp; omega))
      replace KR := Lib.hid (o7.blk (KR.out.alloc _) (by simp; omega))
      have KO := Lib.hid b7
      have HB7 := Lib.hid ((HB.out.alloc HB.out.size _).trans (o7.below (by simp; exact HB.out.size)))
      obtain ⟨go, hgo⟩ : ∃ g, wr.heap.size = g := ⟨_, rfl⟩
      rw [hgo] at KO lr lh
      rw [hgo]
      clear o7 b7 hgo HB hno
      go_loopw [7] (fun i wq => ∃ j : Nat, j ≤ 32 ∧ i = .int .i64 j ∧ Hid (Blk wq go 24 (bytesA (tab 32 fun i => if i < j then byteOf (H (i / 4)) (i % 4) else 0)) ∧ Blk wq (w.heap.size + 1) 60 (uarr 8 H) ∧ Blk wq w.heap.size 24 (bytesA (List.replicate 32 0)) ∧ Below w.heap.size w wq)) (fun i _ => 32 - (intOf i).toNat)
      case atStart => exact ⟨0, by omega, rfl, Lib.hid ⟨(show bytesA (tab 32 fun i => if i < 0 then byteOf (H (i / 4)) (i % 4) else 0) = bytesA (List.replicate 32 0) by simp [tab]; rfl) ▸ KO.out, KH.out, KR.out, HB7.out⟩⟩
      case round =>
        clear KO KH KR HB7
        obtain ⟨j, hj, rfl, HK⟩ := hrel
        by_cases hl : j < 32
        · have hin : j < (tab 32 fun i => if i < j then byteOf (H (i / 4)) (i % 4) else 0).length := by rw [tab_len]; omega
          obtain ⟨old, hc⟩ : ∃ old, wr.cell? ⟨go, j, none⟩ = some old := ⟨_, (HK.out.1.cell _).trans (bytesA_get _ _ hin)⟩
          have hf : wr.frozen? ⟨go, j, none⟩ = false := HK.out.1.frozen _
          have ch : wr.cell? ⟨w.heap.size + 1, j / 4, none⟩ = some (.int .u32 (wv (H (j / 4)))) := by rw [HK.out.2.1.cell, uarr_get _ _ _ (by omega)]
          have HK2 := Lib.hid HK.out
          clear HK hin
          obtain ⟨r, hr⟩ : ∃ r, j % 4 = r := ⟨_, rfl⟩
          have hr4 : r < 4 := by omega
          have e1 : (j : Int) % 4 = r := by omega
          obtain ⟨d, hd⟩ : ∃ d, j / 4 = d := ⟨_, rfl⟩
          have hd8 : d < 8 := by omega
          have e2 : (j : Int) / 4 = d := by omega
          rw [hd] at ch
          have HR4 := Lib.hid hr
          have HD := Lib.hid hd
          clear hr hd
          have i0 : (0 : Int) ≤ 24 - 8 * (r : Int) := by omega
          have i1 : 24 - 8 * (r : Int) ≤ 32 := by omega
          have i2 : (0 : Int) ≤ d := by omega
          have i3 : (d : Int) < 8 := by omega
          have i4 : (0 : Int) ≤ j := by omega
          have i5 : (j : Int) < 32 := by omega
          go_wp2
          go_roundw
          case rel =>
            have hh := HK2.out.1.set_ j (.int .u8 ((byteOf (H d) r).toNat : Int))
            rw [bytesA_set, tab_set 32 _ (fun i => if i < j + 1 then byteOf (H (i / 4)) (i % 4) else 0) _ _ (fun i hi => by
              by_cases e : i = j
              · subst e
                rw [if_pos (by omega), if_pos rfl, HD.out, HR4.out]
              · rw [if_neg e]
                by_cases l : i < j
                · rw [if_pos l, if_pos (by omega)]
                · rw [if_neg l, if_neg (by omega)])] at hh
            rw [u32_shr, byteOf_eq]
            exact ⟨j + 1, by omega, by go_num, Lib.hid ⟨hh, HK2.out.2.1.far (by simp; omega) _, HK2.out.2.2.1.far (by simp; omega) _, HK2.out.2.2.2.setCell (by simp; omega) _⟩⟩
          case measure => simp [intOf]; omega
        · have h1' : Blk wr go 24 (bytesA (hashBytes H)) := by
            unfold hashBytes
            rw [tab_congr 32 (fun j => byteOf (H (j / 4)) (j % 4)) (fun i => if i < j then byteOf (H (i / 4)) (i % 4) else 0) (fun i hi => (if_pos (by omega)).symm)]
            exact HK.out.1
          rw [HSL.out] at h1'
          have H1 := Lib.hid h1'
          have H2 := Lib.hid HK.out.2.2.1
          have HB := Lib.hid HK.out.2.2.2
          have hlen : (sumL s.data.toList).length = 32 := tab_len _ _
          have HLN := Lib.hid hlen
          clear HK h1' hlen
          go_wp2_with (first
            | ((with_reducible refine at_load 6 ?_); refine wpList_load_row rfl 24 (.tmp 6) rfl go rfl 24 (bytesA (sumL s.data.toList)) (0, 0) _ H1.out Try.underlying24 rfl (by rw [bytesA_size, HLN.out]; kernel_rfl) ?_)
            | ((with_reducible refine at_store 2 42 ?_); refine wpList_store_arr rfl 24 (.tmp 2) (.tmp 42) rfl rfl w.heap.size (bytesA (sumL s.data.toList)) rfl rfl 24 _ H2.out (by rw [bytesA_size, HLN.out]; kernel_rfl) (by rw [bytesA_size, bytesA_size, HLN.out]; simp) (bytesA_one _) ?_; intro w8 o8 b8))
          exact bodyPost_ret (results_cell_row rfl _ _ w.heap.size 24 _ (0, 0) _ rfl b8 Try.underlying24 rfl (by rw [bytesA_size, HLN.out]; kernel_rfl)) rfl ⟨rfl, HB.out.trans (o8.below (by simp))⟩
end Go.Proofs.Ytimhophelecmjaa
/- The document's own answers for sha: the bytes of a key. -/
namespace Go.Proofs.Ytimhophelecmjaa
open Go.RowKit
theorem ref_info5 : (Try.prog.info? 5).map (fun i => (i.zero, i.size, i.bytes)) = some (some (.int .u8 0), 1, 1) := by kernel_rfl
set_option maxRecDepth 20000 in
set_option maxHeartbeats 1000000 in
theorem srefBytes_any (l : List UInt8) (hl : l.length = 32) (w : World) :
    Calls Try.prog 22 #[.agg (bytesA l)] w fun e w' => e = .returned (.string ⟨l.toArray⟩) ∧ Below w.heap.size w w' := by
  have HL := Lib.hid hl
  clear hl
  go_enter Try.func22, Try.ntmps22
  go_wp2_with fail
  go_loopw [3, 4] (fun v i wr => ∃ j : Nat, j ≤ 32 ∧ i = .int .i64 j ∧ wr.ownsRow (w.heap.size + 1) 5 1 v j (Lib.byteCells (l.take j)) ∧ Blk wr w.heap.size 24 (bytesA l) ∧ Below w.heap.size w wr ∧ w.heap.size + 1 ≤ wr.heap.size)
    (fun _ i _ => 32 - (intOf i).toNat)
  case atStart =>
    refine ⟨0, by omega, rfl, ?_, (Blk.new _ _ _).alloc _, ((Below.refl _ _).alloc (Nat.le_refl _) _).alloc (by simp) _, by simp⟩
    have := World.ownsRow_lit (e := 5) (size := 1) (base := w.heap.size + 1) (w.alloc (.cells (bytesA l) 24)) #[] 0 (by simp) (by unfold maxLen; omega) (by simp)
    simpa [Lib.byteCells] using this
  case round =>
    obtain ⟨j, hj, rfl, hown, hk, hb, hs⟩ := hrel
    have HO := Lib.hid hown
    have HK := Lib.hid hk
    by_cases hlt : j < 32
    · have hlj : j < l.length := by rw [HL.out]; exact hlt
      have hc : wr.cell? ⟨w.heap.size, j, none⟩ = _ := (hk.cell _).trans (bytesA_get l j hlj)
      clear hown hk
      go_wp2_with (at_builtin; refine wpList_append1 rfl (.tmp 10) (.tmp 14) 59 rfl (w.heap.size + 1) 5 _ 1 Try.underlying59 ref_info5 rfl (by omega) _ _ _ rfl (HO.out.alloc _) _ 1 (.int .u8 (l[j].toNat : Int)) rfl (Blk.new _ _ _) rfl (by omega) (by simp; omega) ?_; intro v' w' o' b')
      go_roundw
      case rel =>
        refine ⟨j + 1, by omega, by go_num, ?_, below_blk b' (HK.out.alloc _) (by omega), (hb.alloc hb.size _).trans (b'.mono (by omega)), by have := b'.size; simp at this; omega⟩
        rw [show Lib.byteCells (l.take (j + 1)) = Lib.byteCells (l.take j) ++ [.int .u8 (l[j].toNat : Int)] by rw [List.take_succ_eq_append_getElem hlj]; unfold Lib.byteCells; rw [List.map_append]; rfl]
        exact o'
      case measure => simp [intOf]; omega
    · have hj32 : j = 32 := by omega
      subst hj32
      have hconv := conv_own (w := wr) (base := w.heap.size + 1) (v := u3) (l := l) (by have := HO.out; rw [List.take_of_length_le (by rw [HL.out]; omega)] at this; rw [HL.out]; exact this)
      clear hown hk HO HK
      go_wp2
      go_ret
      exact ⟨rfl, hb⟩
end Go.Proofs.Ytimhophelecmjaa
/- The reference's Double and Pair. -/
namespace Go.Proofs.Ytimhophelecmjaa
open Go.RowKit
theorem mkL_size (l : List UInt8) : (⟨l.toArray⟩ : ByteArray).size = l.length := by simp [ByteArray.size]
theorem refDouble_any (s : ByteArray) (hs : s.size ≤ 1000000) (w : World) :
    Calls Try.prog 12 #[.string s] w fun e w' => e = .returned (.agg (bytesA (dblL s.data.toList))) ∧ Below w.heap.size w w' := by
  go_enter Try.func12, Try.ntmps12
  go_wp2_with fail
  have B0 : Below w.heap.size w (w.alloc (.cells (bytesA (List.replicate 32 0)) 24)) := (Below.refl _ _).alloc (Nat.le_refl _) _
  refine (refSum_any s hs _).mono ?_
  rintro e w1 ⟨rfl, b1⟩
  have KR := Lib.hid (below_blk b1 (Blk.new w 24 (bytesA (List.replicate 32 0))) (by simp))
  have B1 := B0.trans (b1.mono (by simp))
  clear b1 B0
  go_wp2_with fail
  refine (srefBytes_any _ (sumL_len _) _).mono ?_
  rintro e w2 ⟨rfl, b2⟩
  have B2 := B1.trans (b2.mono B1.size)
  replace KR := Lib.hid (below_blk b2 KR.out KR.out.lt)
  clear b2 B1
  obtain ⟨q, hq⟩ : ∃ q : ByteArray, (⟨(sumL s.data.toList).toArray⟩ : ByteArray) = q := ⟨_, rfl⟩
  rw [hq]
  have hql : q.data.toList = sumL s.data.toList := by rw [← hq]
  have hqs : q.size ≤ 1000000 := by rw [← hq, mkL_size, sumL_len]; omega
  have HQ := Lib.hid hql
  clear hq hql
  go_wp2_with fail
  refine (refSum_any q hqs _).mono ?_
  rintro e w3 ⟨rfl, b3⟩
  have B3 := B2.trans (b3.mono B2.size)
  replace KR := Lib.hid (below_blk b3 KR.out KR.out.lt)
  rw [HQ.out, show sumL (sumL s.data.toList) = dblL s.data.toList from rfl]
  have HLN := Lib.hid (show (dblL s.data.toList).length = 32 from sumL_len _)
  clear b3 B2
  go_wp2_with ((with_reducible refine at_store 2 6 ?_); refine wpList_store_arr rfl 24 (.tmp 2) (.tmp 6) rfl rfl w.heap.size (bytesA (dblL s.data.toList)) rfl rfl 24 _ KR.out (by rw [bytesA_size, HLN.out]; kernel_rfl) (by rw [bytesA_size, bytesA_size, HLN.out]; simp) (bytesA_one _) ?_; intro w8 o8 b8)
  exact bodyPost_ret (results_cell_row rfl _ _ w.heap.size 24 _ (0, 0) _ rfl b8 Try.underlying24 rfl (by rw [bytesA_size, HLN.out]; kernel_rfl)) rfl ⟨rfl, B3.trans (o8.below (by simp))⟩
theorem keep_some {w w' : World} {g : Nat} {t : TypeId} (hb : Below w.heap.size w w') (h : ∃ cs : Array Value, cs.size = 32 ∧ Blk w g t cs) : ∃ cs : Array Value, cs.size = 32 ∧ Blk w' g t cs := by
  obtain ⟨cs, h1, h2⟩ := h
  exact ⟨cs, h1, below_blk hb h2 h2.lt⟩
end Go.Proofs.Ytimhophelecmjaa
