/- CodecOne: the statement's walk. -/
import Derived.Test.YtkmbppjkgappnaaLCBack
namespace Go.Proofs.Ytkmbppjkgappnaa
open Go.RowKit
theorem ba_take (s : ByteArray) (k : Nat) : s.extract 0 k = ⟨(s.data.toList.take k).toArray⟩ := by
  apply ByteArray.ext
  rw [ByteArray.data_extract]
  apply Array.toList_inj.mp
  rw [Array.toList_extract, List.extract_eq_take_drop]
  simp
set_option maxRecDepth 20000 in
set_option maxHeartbeats 2000000 in
theorem cone_walk (s : ByteArray) (w : World) (_hs : s.size ≤ maxLen) :
    Calls Try.prog 5 #[.string s] w fun e w' => e = .returned (.bool true) ∧ Below w.heap.size w w' := by
  by_cases hlen : 1024 < s.size
  · go_enter Try.func5, Try.ntmps5
    go_wp2_with fail
    refine (shown_any _).mono ?_
    rintro e w1 ⟨rfl, b1⟩
    go_wp2
    go_ret
    exact ⟨rfl, b1⟩
  have hs : s.size ≤ 1000000 := by omega
  rcases readF_cases s.data.toList with ⟨n, r, hr, hc, hn⟩ | hr | hr
  · obtain ⟨c, hcc⟩ : ∃ c, (ByteArray.mk (cmpL n).toArray) = c := ⟨_, rfl⟩
    obtain ⟨u, hu⟩ : ∃ u, (ByteArray.mk r.toArray) = u := ⟨_, rfl⟩
    have hcd : c.data.toList = cmpL n := by rw [← hcc]
    have hcs : c.size = (cmpL n).length := by rw [← ba_len, hcd]
    have hcl : (cmpL n).length ≤ 9 := by rw [cmpL_want]; unfold wantN; split <;> (try split) <;> (try split) <;> omega
    have hrl : r.length ≤ 1024 := by
      have := congrArg List.length hc
      rw [List.length_append, ba_len] at this
      omega
    have hadd : ∀ V, (Op.stringOp .add c u).run Try.prog V = .ok (.string s) V := fun V => by
      rw [← hcc, ← hu, run_string_add_lists V (cmpL n) r (by omega) (by omega), hc, ba_mk]
    have HR : Hid (∀ V, Calls Try.prog 12 #[.string s] V fun e w' => e = .returned (.tuple #[.int .u64 n, .string u, .int .i64 0]) ∧ Below V.heap.size V w') := Lib.hid fun V => by
      have h := read_any s hs V
      rw [hr] at h
      unfold getV at h
      rw [← hu]; exact h
    have HC : Hid (∀ V, Calls Try.prog 18 #[.int .u64 n] V fun e w' => e = .returned (.string c) ∧ Below V.heap.size V w') := Lib.hid fun V => by
      rw [← hcc]; exact compact_any n V
    have HT : Hid (∀ i : Nat, i < c.size → ∀ V, Calls Try.prog 12 #[.string (c.extract 0 i)] V fun e w' => e = .returned (.tuple #[.int .u64 0, .string ⟨#[]⟩, .int .i64 30]) ∧ Below V.heap.size V w') := Lib.hid fun i hi V => by
      have hd : (c.extract 0 i).data.toList = (cmpL n).take i := by rw [ba_take, hcd]
      have h := read_any (c.extract 0 i) (by rw [← ba_len, hd, List.length_take]; omega) V
      rw [hd, readF_cut n i (by omega)] at h
      exact h
    have hcz : c.size ≤ 9 := by omega
    clear hr hc hn hcc hu hcd hcs hcl hrl
    go_enter Try.func5, Try.ntmps5
    go_wp2_with fail
    refine (shown_any _).mono ?_
    rintro e w1 ⟨rfl, B1⟩
    go_wp2_with fail
    refine (HR.out _).mono ?_
    rintro e w2 ⟨rfl, b2⟩
    have B2 := B1.trans (b2.mono B1.size)
    clear b2 B1
    go_wp2_with fail
    refine (HC.out _).mono ?_
    rintro e w3 ⟨rfl, b3⟩
    have B3 := B2.trans (b3.mono B2.size)
    clear b3 B2
    go_wp2_with fail
    go_loopw [7] (fun i wr => ∃ k : Nat, k ≤ c.size ∧ i = .int .i64 k ∧ Below w.heap.size w wr) (fun i _ => c.size - (intOf i).toNat)
    case atStart => exact ⟨0, by omega, rfl, B3⟩
    case round =>
      obtain ⟨k, hk, rfl, hb⟩ := hrel
      by_cases hlt : k < c.size
      · have hsl : ∀ W, (Instr.slice 9 (.string c) none (some (.int .i64 (k : Int))) none).run Try.prog W = .ok (.string (c.extract 0 k)) W := fun W => by
          rw [run_slice_string_to_if W 9 c .i64 _ Try.underlying9, if_pos (by omega)]; rfl
        have HK := Lib.hid (HT.out k hlt)
        go_wp2_with fail
        refine (HK.out _).mono ?_
        rintro e w4 ⟨rfl, b4⟩
        go_wp2_with fail
        go_roundw
        case rel => exact ⟨k + 1, by omega, by go_num, hb.trans (b4.mono hb.size)⟩
        case measure => simp [intOf]; omega
      · have hkc : k = c.size := by omega
        subst hkc
        go_wp2
        go_ret
        exact ⟨rfl, hb⟩
  · have HR : Hid (∀ V, Calls Try.prog 12 #[.string s] V fun e w' => e = .returned (.tuple #[.int .u64 0, .string ⟨#[]⟩, .int .i64 30]) ∧ Below V.heap.size V w') := Lib.hid fun V => by
      have h := read_any s hs V
      rw [hr] at h
      exact h
    clear hr
    go_enter Try.func5, Try.ntmps5
    go_wp2_with fail
    refine (shown_any _).mono ?_
    rintro e w1 ⟨rfl, B1⟩
    go_wp2_with fail
    refine (HR.out _).mono ?_
    rintro e w2 ⟨rfl, b2⟩
    have B2 := B1.trans (b2.mono B1.size)
    clear b2 B1
    go_wp2
    go_ret
    exact ⟨rfl, B2⟩
  · have HR : Hid (∀ V, Calls Try.prog 12 #[.string s] V fun e w' => e = .returned (.tuple #[.int .u64 0, .string ⟨#[]⟩, .int .i64 31]) ∧ Below V.heap.size V w') := Lib.hid fun V => by
      have h := read_any s hs V
      rw [hr] at h
      exact h
    clear hr
    go_enter Try.func5, Try.ntmps5
    go_wp2_with fail
    refine (shown_any _).mono ?_
    rintro e w1 ⟨rfl, B1⟩
    go_wp2_with fail
    refine (HR.out _).mono ?_
    rintro e w2 ⟨rfl, b2⟩
    have B2 := B1.trans (b2.mono B1.size)
    clear b2 B1
    go_wp2
    go_ret
    exact ⟨rfl, B2⟩
end Go.Proofs.Ytkmbppjkgappnaa
