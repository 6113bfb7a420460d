/- codec.Put and Compact. -/
import Derived.Test.YtgcopgnkfokphaaCodA
import Derived.Test.YtgcopgnkfokphaaMake
namespace Go.Proofs.Ytgcopgnkfokphaa
open Go.RowKit
/-- the first k bytes of n, noughts behind -/
def putKb (n m k : Nat) : List UInt8 := tab m fun i => if i < k then putB n i else 0
theorem putKb_all (n m : Nat) : putKb n m m = putL n m := by
  unfold putKb putL
  rw [tab_congr m (fun i => if i < m then putB n i else 0) (putB n) (fun i hi => by rw [if_pos hi])]
  rfl
theorem made_u8 (n m : Nat) : madeCells #[Value.int .u8 0] m = bytesA (putKb n m 0) := by
  apply Array.ext_getElem?
  intro i
  by_cases hi : i < m
  · rw [bytesA_get _ _ (by unfold putKb; rw [tab_len]; exact hi), made_get _ _ _ hi]; unfold putKb; rw [tab_get]; rfl
  · simp [madeCells, bytesA, putKb, tab, hi]
theorem conv_blk {w : World} {g m : Nat} {t : TypeId} {l : List UInt8} (h : Blk w g t (bytesA l)) (hm : l.length = m) :
    (convert 74 9 (.slice (some ⟨g, 0, none⟩) m m)).run Try.prog w = .ok (.string ⟨l.toArray⟩) w := by
  subst hm
  refine run_convert_bytes_back (P := Try.prog) w 74 9 5 ⟨g, 0, none⟩ l.length l Try.underlying74 Try.underlying5 Try.underlying9 (fun j hj => ?_)
  rw [show (⟨g, 0, none⟩ : Addr).add j = ⟨g, j, none⟩ by unfold Addr.add; split <;> simp_all, h.cell, bytesA_get _ _ hj]
set_option maxRecDepth 20000 in
set_option maxHeartbeats 1000000 in
theorem cput_any (n : Nat) (wd : Int) (w : World) :
    Calls Try.prog 36 #[.int .u64 n, .int .i64 wd] w fun e w' => e = .returned (.string ⟨(putF n wd).toArray⟩) ∧ Below w.heap.size w w' := by
  by_cases hw : wd < 1 ∨ 8 < wd
  · rw [show putF n wd = [] by simp [putF, hw]]
    have hmw : mayW wd = false := by simp [mayW]; omega
    go_enter Try.func36, Try.ntmps36
    go_wp2_with fail
    refine (may_any wd _).mono ?_
    rintro e w1 ⟨rfl, rfl⟩
    rw [hmw]
    go_wp2
    go_ret
    exact ⟨rfl, Below.refl _ _⟩
  have hmw : mayW wd = true := by simp [mayW]; omega
  obtain ⟨m, rfl⟩ : ∃ m : Nat, wd = m := ⟨wd.toNat, by omega⟩
  have hm1 : 1 ≤ m := by omega
  have hm8 : m ≤ 8 := by omega
  rw [show putF n (m : Int) = putL n m by simp [putF, hw]]
  have hmk : ∀ W, (Instr.makeSlice 74 (.int .i64 (m : Int)) (.int .i64 (m : Int))).run Try.prog W = .ok (.slice (some ⟨W.heap.size, 0, none⟩) m m) (W.alloc (.cells (bytesA (putKb n m 0)) 5)) := fun W => by
    rw [← made_u8]; exact run_make_one _ _ _ 1 Try.underlying74 byte_info rfl (by omega) .i64 .i64 m (by omega) W
  go_enter Try.func36, Try.ntmps36
  go_wp2_with fail
  refine (may_any m _).mono ?_
  rintro e w1 ⟨rfl, rfl⟩
  rw [hmw]
  clear hw hmw
  go_wp2_with fail
  clear hmk
  go_loopw [14] (fun i wr => ∃ k : Nat, k ≤ m ∧ i = .int .i64 k ∧ Hid (Blk wr w1.heap.size 5 (bytesA (putKb n m k))) ∧ Below w1.heap.size w1 wr) (fun i _ => m - (intOf i).toNat)
  case atStart =>
    exact ⟨0, by omega, rfl, Lib.hid (Blk.new w1 5 (bytesA (putKb n m 0))), (Below.refl _ _).alloc (Nat.le_refl _) _⟩
  case round =>
    obtain ⟨k, hk, rfl, HB, hb⟩ := hrel
    by_cases hlt : k < m
    · go_wp2_with (refine wpList_store_cell rfl 5 (.tmp 24) (.tmp 23) rfl rfl w1.heap.size k (.int .u8 ((putB n k).toNat : Int)) rfl (by rw [← putB_val]; rfl) rfl 5 _ HB.out (by rw [bytesA_size]; unfold putKb; rw [tab_len]; exact hlt) (by kernel_rfl) ?_; intro w3 o3 b3)
      go_roundw
      case rel =>
        refine ⟨k + 1, by omega, by go_num, Lib.hid ?_, hb.trans (o3.below (by simp))⟩
        rw [bytesA_set] at b3
        unfold putKb at b3
        rw [tab_set m _ (fun i => if i < k + 1 then putB n i else 0) _ _ (fun i hi => by
              by_cases e : i = k
              · subst e
                rw [if_pos (by omega), if_pos rfl]
              · rw [if_neg e]
                by_cases l : i < k
                · rw [if_pos l, if_pos (by omega)]
                · rw [if_neg l, if_neg (by omega)])] at b3
        exact b3
      case measure => simp [intOf]; omega
    · have hkm : k = m := by omega
      subst hkm
      have HB' := HB.out
      rw [putKb_all] at HB'
      have hconv := conv_blk HB' (putL_len _ _)
      clear HB'
      go_wp2
      go_ret
      exact ⟨rfl, hb⟩
theorem cmpL_short (n : Nat) (h : n < 253) : cmpL n = putF n 1 := by simp [cmpL, putF, h]
theorem mk_byte (n : Nat) (h : ¬ n < 253) : cmpL n = putF (mkN n) 1 ++ putF n (wdN n) := by
  by_cases h2 : n ≤ 65535
  · simp [cmpL, mkN, wdN, h, h2, putF]; rfl
  by_cases h3 : n ≤ 4294967295
  · simp [cmpL, mkN, wdN, h, h2, h3, putF]; rfl
  · simp [cmpL, mkN, wdN, h, h2, h3, putF]; rfl
theorem wdN_one (n : Nat) (h : n < 253) : wdN n = 1 := by simp [wdN, h]
theorem wdN_more (n : Nat) (h : ¬ n < 253) : 1 < wdN n ∧ wdN n ≤ 8 := by unfold wdN; rw [if_neg h]; split <;> (try split) <;> omega
theorem putF_len (n m : Nat) (h1 : 1 ≤ m) (h8 : m ≤ 8) : (putF n m).length = m := by
  unfold putF; rw [if_neg (by omega), putL_len]; omega
theorem ccompact_any (n : Nat) (w : World) :
    Calls Try.prog 37 #[.int .u64 n] w fun e w' => e = .returned (.string ⟨(cmpL n).toArray⟩) ∧ Below w.heap.size w w' := by
  by_cases h1 : n < 253
  · rw [cmpL_short n h1]
    have hw := wdN_one n h1
    go_enter Try.func37, Try.ntmps37
    go_wp2_with fail
    refine (shape_any n _).mono ?_
    rintro e w1 ⟨rfl, rfl⟩
    rw [hw]
    go_wp2_with fail
    refine (cput_any n 1 _).mono ?_
    rintro e w2 ⟨rfl, b2⟩
    go_wp2
    go_ret
    exact ⟨rfl, b2⟩
  · rw [mk_byte n h1]
    have hw := wdN_more n h1
    have hadd : ∀ V, (Op.stringOp .add ⟨(putF (mkN n) 1).toArray⟩ ⟨(putF n (wdN n)).toArray⟩).run Try.prog V = .ok (.string ⟨(putF (mkN n) 1 ++ putF n (wdN n)).toArray⟩) V := fun V => run_string_add_lists V _ _ (by rw [show (1 : Int) = ((1 : Nat) : Int) from rfl, putF_len _ _ (by omega) (by omega)]; decide) (by rw [putF_len _ _ (by omega) (by omega)]; omega)
    have HA := Lib.hid hadd
    clear hadd
    obtain ⟨k, hk⟩ : ∃ k : Nat, wdN n = k := ⟨_, rfl⟩
    rw [hk] at hw HA
    rw [hk]
    have d1 : ((k : Int) == 1) = false := beq_eq_false_iff_ne.mpr (by omega)
    go_enter Try.func37, Try.ntmps37
    go_wp2_with fail
    refine (shape_any n _).mono ?_
    rintro e w1 ⟨rfl, rfl⟩
    rw [hk]
    go_wp2_with fail
    refine (cput_any (mkN n) 1 _).mono ?_
    rintro e w2 ⟨rfl, b2⟩
    go_wp2_with fail
    refine (cput_any n k _).mono ?_
    rintro e w3 ⟨rfl, b3⟩
    have hadd := HA.out
    go_wp2
    go_ret
    exact ⟨rfl, b2.trans (b3.mono b2.size)⟩
end Go.Proofs.Ytgcopgnkfokphaa
