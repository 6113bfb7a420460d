/- The reference's Words: the numbers of bytes, put one by one behind a row of its own. -/
import Derived.Test.YtgcopgnkfokphaaDoorWordA
import Derived.Test.YtgcopgnkfokphaaDoorGenA
import Derived.Deep.RegionHeld3
namespace Go.Proofs.YtgcopgnkfokphaaDoor
open Go.RowKit
theorem uarr_snoc (k : Nat) (f : Nat → BitVec 32) : (uarr (k + 1) f).toList = (uarr k f).toList ++ [.int .u32 (wv (f k))] := by
  simp [uarr, List.range_succ]
theorem beWord_wrap (a b c d : UInt8) : bits .or .u32 (bits .or .u32 (bits .or .u32 (IntKind.u32.wrap (IntKind.u32.wrap (a.toNat : Int) * 16777216)) (IntKind.u32.wrap (IntKind.u32.wrap (b.toNat : Int) * 65536))) (IntKind.u32.wrap (IntKind.u32.wrap (c.toNat : Int) * 256))) (IntKind.u32.wrap (d.toNat : Int)) = wv (beWord a b c d) := by
  simp only [IntKind.wrap_u32']
  exact beWord_eq a b c d
set_option maxRecDepth 20000 in
set_option maxHeartbeats 2000000 in
theorem refWords_any (s : ByteArray) (hs : s.size ≤ 1000000) (w : World) :
    Calls Tryd.prog 56 #[.string s] w fun e w' => ∃ v, e = .returned v ∧ w'.ownsRow w.heap.size 22 1 v (s.size / 4) (uarr (s.size / 4) (wordL s.data.toList)).toList ∧ Below w.heap.size w w' := by
  obtain ⟨m, hm⟩ : ∃ m, s.size / 4 = m := ⟨_, rfl⟩
  have hm4 : 4 * m ≤ s.size := by omega
  have hm4' : s.size < 4 * m + 4 := by omega
  rw [hm]
  clear hm
  go_enter Tryd.func56, Tryd.ntmps56
  go_wp2_with fail
  go_loopw [3, 4] (fun v i wr => ∃ k : Nat, k ≤ m ∧ i = .int .i64 ((4 * k : Nat) : Int) ∧ Hid (wr.ownsRow w.heap.size 22 1 v k (uarr k (wordL s.data.toList)).toList) ∧ Below w.heap.size w wr) (fun _ i _ => (s.size + 4) - (intOf i).toNat)
  case atStart =>
    refine ⟨0, by omega, rfl, Lib.hid ?_, (Below.refl _ _).alloc (Nat.le_refl _) _⟩
    have := World.ownsRow_lit (e := 22) (size := 1) (base := w.heap.size) w #[] 0 (Nat.le_refl _) (by unfold maxLen; omega) (by simp)
    simpa [uarr] using this
  case round =>
    obtain ⟨k, hk, rfl, HO, hb⟩ := hrel
    by_cases hlt : k < m
    · have i1 : ((4 * k : Nat) : Int) + 4 ≤ s.size := by omega
      have i0 : (0 : Int) ≤ ((4 * k : Nat) : Int) := by omega
      have i2 : ((4 * k : Nat) : Int) < s.size := by omega
      have i3 : ((4 * k : Nat) : Int) + 1 < s.size := by omega
      have i4 : ((4 * k : Nat) : Int) + 2 < s.size := by omega
      have i5 : ((4 * k : Nat) : Int) + 3 < s.size := by omega
      obtain ⟨p, hp⟩ : ∃ p : Nat, 4 * k = p := ⟨_, rfl⟩
      rw [hp] at i0 i1 i2 i3 i4 i5
      rw [hp]
      have HP := Lib.hid hp
      have HBB := Lib.hid hb
      clear hp hb
      have hb0 := Lib.hid (byte_getD s p (by omega))
      have hb1 := Lib.hid (byte_getD s (p + 1) (by omega))
      have hb2 := Lib.hid (byte_getD s (p + 2) (by omega))
      have hb3 := Lib.hid (byte_getD s (p + 3) (by omega))
      have ww1 : IntKind.i64.wrap ((p : Int) + 1) = (p : Int) + 1 := IntWalk.i64_in _ (by omega)
      have ww2 : IntKind.i64.wrap ((p : Int) + 2) = (p : Int) + 2 := IntWalk.i64_in _ (by omega)
      have ww3 : IntKind.i64.wrap ((p : Int) + 3) = (p : Int) + 3 := IntWalk.i64_in _ (by omega)
      have p1 : (0 : Int) ≤ (p : Int) + 1 := by omega
      have p2 : (0 : Int) ≤ (p : Int) + 2 := by omega
      have p3 : (0 : Int) ≤ (p : Int) + 3 := by omega
      have q1 : ((p : Int) + 1).toNat = p + 1 := by omega
      have q2 : ((p : Int) + 2).toNat = p + 2 := by omega
      have q3 : ((p : Int) + 3).toNat = p + 3 := by omega
      go_wp2_with fail
      refine wp_region_any (by kernel_rfl) ?_
      change wpAny _ _ _ _ _ _ _ (World.drew _)
      refine wpAny_take (i := 0) (v := ?_) rfl (by kernel_rfl) (by kernel_rfl) (by kernel_rfl) (fun _ _ _ h => h) (Or.inl ⟨by rfl, by intro W; go_simp; try with_reducible rfl⟩) ?_
      refine wpAny_take (i := 1) (v := ?_) rfl (by kernel_rfl) (by kernel_rfl) (by kernel_rfl) (fun _ _ _ h => h) (Or.inl ⟨by rfl, by intro W; go_simp; try with_reducible rfl⟩) ?_
      refine wpAny_take (i := 2) (v := ?_) rfl (by kernel_rfl) (by kernel_rfl) (by kernel_rfl) (fun _ _ _ h => h) (Or.inl ⟨by rfl, by intro W; go_simp; try with_reducible rfl⟩) ?_
      refine wpAny_take (i := 3) (v := ?_) rfl (by kernel_rfl) (by kernel_rfl) (by kernel_rfl) (fun _ _ _ h => h) (Or.inl ⟨by rfl, by intro W; go_simp; try with_reducible rfl⟩) ?_
      refine wpAny_take (i := 4) (v := ?_) rfl (by kernel_rfl) (by kernel_rfl) (by kernel_rfl) (fun _ _ _ h => h) (Or.inl ⟨by rfl, by intro W; go_simp; try with_reducible rfl⟩) ?_
      refine wpAny_take (i := 5) (v := ?_) rfl (by kernel_rfl) (by kernel_rfl) (by kernel_rfl) (fun _ _ _ h => h) (Or.inl ⟨by rfl, by intro W; go_simp; try with_reducible rfl⟩) ?_
      refine wpAny_take (i := 6) (v := ?_) rfl (by kernel_rfl) (by kernel_rfl) (by kernel_rfl) (fun _ _ _ h => h) (Or.inl ⟨by rfl, by intro W; go_simp; try with_reducible rfl⟩) ?_
      refine wpAny_take (i := 7) (v := ?_) rfl (by kernel_rfl) (by kernel_rfl) (by kernel_rfl) (fun _ _ _ h => h) (Or.inl ⟨by rfl, by intro W; go_simp; try with_reducible rfl⟩) ?_
      refine wpAny_take (i := 8) (v := ?_) rfl (by kernel_rfl) (by kernel_rfl) (by kernel_rfl) (fun _ _ _ h => h) (Or.inl ⟨by rfl, by intro W; go_simp; try with_reducible rfl⟩) ?_
      refine wpAny_take (i := 9) (v := ?_) rfl (by kernel_rfl) (by kernel_rfl) (by kernel_rfl) (fun _ _ _ h => h) (Or.inl ⟨by rfl, by intro W; go_simp; try with_reducible rfl⟩) ?_
      refine wpAny_take (i := 10) (v := ?_) rfl (by kernel_rfl) (by kernel_rfl) (by kernel_rfl) (fun _ _ _ h => h) (Or.inl ⟨by rfl, by intro W; go_simp; try with_reducible rfl⟩) ?_
      refine wpAny_take (i := 11) (v := ?_) rfl (by kernel_rfl) (by kernel_rfl) (by kernel_rfl) (fun _ _ _ h => h) (Or.inl ⟨by rfl, by intro W; go_simp; try with_reducible rfl⟩) ?_
      refine wpAny_take (i := 12) (v := ?_) rfl (by kernel_rfl) (by kernel_rfl) (by kernel_rfl) (fun _ _ _ h => h) (Or.inl ⟨by rfl, by intro W; go_simp; try with_reducible rfl⟩) ?_
      refine wpAny_take (i := 13) (v := ?_) rfl (by kernel_rfl) (by kernel_rfl) (by kernel_rfl) (fun _ _ _ h => h) (Or.inl ⟨by rfl, by intro W; go_simp; try with_reducible rfl⟩) ?_
      refine wpAny_take (i := 14) (v := ?_) rfl (by kernel_rfl) (by kernel_rfl) (by kernel_rfl) (fun _ _ _ h => h) (Or.inl ⟨by rfl, by intro W; go_simp; try with_reducible rfl⟩) ?_
      refine wpAny_take (i := 15) (v := ?_) rfl (by kernel_rfl) (by kernel_rfl) (by kernel_rfl) (fun _ _ _ h => h) (Or.inl ⟨by rfl, by intro W; go_simp; try with_reducible rfl⟩) ?_
      refine wpAny_take (i := 16) (v := ?_) rfl (by kernel_rfl) (by kernel_rfl) (by kernel_rfl) (fun _ _ _ h => h) (Or.inl ⟨by rfl, by intro W; go_simp; try with_reducible rfl⟩) ?_
      refine wpAny_take (i := 17) (v := ?_) rfl (by kernel_rfl) (by kernel_rfl) (by kernel_rfl) (fun _ _ _ h => h) (Or.inl ⟨by rfl, by intro W; go_simp; try with_reducible rfl⟩) ?_
      refine wpAny_take (i := 18) (v := ?_) rfl (by kernel_rfl) (by kernel_rfl) (by kernel_rfl) (fun _ _ _ h => h) (Or.inl ⟨by rfl, by intro W; go_simp; try with_reducible rfl⟩) ?_
      refine wpAny_take (i := 19) (v := ?_) rfl (by kernel_rfl) (by kernel_rfl) (by kernel_rfl) (fun _ _ _ h => h) (Or.inl ⟨by rfl, by intro W; go_simp; try with_reducible rfl⟩) ?_
      refine wpAny_take (i := 20) (v := ?_) rfl (by kernel_rfl) (by kernel_rfl) (by kernel_rfl) (fun _ _ _ h => h) (Or.inl ⟨by rfl, by intro W; go_simp; try with_reducible rfl⟩) ?_
      refine wpAny_take (i := 21) (v := ?_) rfl (by kernel_rfl) (by kernel_rfl) (by kernel_rfl) (fun _ _ _ h => h) (Or.inl ⟨by rfl, by intro W; go_simp; try with_reducible rfl⟩) ?_
      refine wpAny_take (i := 22) (v := ?_) rfl (by kernel_rfl) (by kernel_rfl) (by kernel_rfl) (fun _ _ _ h => h) (Or.inl ⟨by rfl, by intro W; go_simp; try with_reducible rfl⟩) ?_
      refine wpAny_take (i := 23) (v := ?_) rfl (by kernel_rfl) (by kernel_rfl) (by kernel_rfl) (fun _ _ _ h => h) (Or.inl ⟨by rfl, by intro W; go_simp; try with_reducible rfl⟩) ?_
      refine wpAny_take (i := 24) (v := ?_) rfl (by kernel_rfl) (by kernel_rfl) (by kernel_rfl) (fun _ _ _ h => h) (Or.inl ⟨by rfl, by intro W; go_simp; try with_reducible rfl⟩) ?_
      refine wpAny_take (i := 25) (v := ?_) rfl (by kernel_rfl) (by kernel_rfl) (by kernel_rfl) (fun _ _ _ h => h) (Or.inl ⟨by rfl, by intro W; go_simp; try with_reducible rfl⟩) ?_
      simp only [Act.put, List.getElem_toArray, List.getElem_cons_zero, List.getElem_cons_succ, List.setIfInBounds_toArray, List.set_cons_succ, List.set_cons_zero]
      refine wpAny_ready (rs := [26]) (by kernel_rfl) (by simp) ?_
      refine AllReady.cons rfl (fun K hK => ?_) AllReady.nil
      go_simp
      refine hK _ _ ?_
      clear hK K
      refine wpAny_ready (rs := [27]) (by kernel_rfl) (by simp) ?_
      refine AllReady.cons rfl (fun K hK => ?_) AllReady.nil
      refine step_append1g rfl (.tmp 13) (.tmp 39) 89 rfl w.heap.size 22 _ 4 Tryd.underlying89 u32_info rfl (by omega) u3 k _ (by rfl) (HO.out.drew.alloc _) wr.heap.size 1 _ (by rfl) (Blk.new wr.drew _ _) rfl (by omega) (by have := HBB.out.size; simp; omega) ?_
      intro v2 w2 o2 g2 _
      refine hK _ _ ?_
      clear hK K
      simp only [Act.put, List.getElem_toArray, List.getElem_cons_zero, List.getElem_cons_succ, List.setIfInBounds_toArray, List.set_cons_succ, List.set_cons_zero]
      refine wpAny_ready (rs := [28]) (by kernel_rfl) (by simp) ?_
      refine AllReady.cons rfl (fun K hK => ?_) AllReady.nil
      go_simp
      refine hK _ _ ?_
      clear hK K
      refine wpAny_done (by kernel_rfl) ?_ _
      rw [beWord_wrap] at o2
      have O2 := Lib.hid o2
      clear o2
      have B2 : Below w.heap.size w w2 := ((HBB.out.drew).alloc (by have := HBB.out.size; simpa using this) _).trans (grown_below g2 (HO.out.drew.alloc _) (by have := HBB.out.size; simp; omega))
      have B3 := Lib.hid B2
      clear B2 g2
      go_wp2_with fail
      go_roundw
      case rel =>
        refine ⟨k + 1, by omega, by rw [← HP.out]; go_num, Lib.hid ?_, B3.out⟩
        rw [uarr_snoc, show wordL s.data.toList k = beWord s[p] s[p + 1] s[p + 2] s[p + 3] by unfold wordL; rw [HP.out, hb0.out, hb1.out, hb2.out, hb3.out]]
        exact O2.out
      case measure => simp [intOf]; omega
    · have hkm : k = m := by omega
      subst hkm
      have hno : ¬ (((4 * k : Nat) : Int) + 4 ≤ s.size) := by omega
      clear hlt hk
      go_wp2
      go_ret
      exact ⟨_, rfl, HO.out, hb⟩
end Go.Proofs.YtgcopgnkfokphaaDoor
