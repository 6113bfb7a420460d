/- The reference's Pad: bytes, a mark, noughts, and how many bits they are. -/
import Derived.Test.YtgcopgnkfokphaaDoorGenA
import Derived.Test.YtgcopgnkfokphaaDoorPadQ
namespace Go.Proofs.YtgcopgnkfokphaaDoor
open Go.RowKit
theorem pad_info : (Tryd.prog.info? 5).map (fun i => (i.zero, i.size, i.bytes)) = some (some (.int .u8 0), 1, 1) := by kernel_rfl
def lenV : Value → Nat
  | .slice _ n _ => n
  | _ => 0
theorem conv_srow {w : World} {base : Nat} {v : Value} {n : Nat} {l : List UInt8} (h : SRow w base v n (Lib.byteCells l)) :
    (convert 44 9 v).run Tryd.prog w = .ok (.string ⟨l.toArray⟩) w := by
  have hn : n = l.length := by have := h.1; simpa [Lib.byteCells] using this.symm
  subst hn
  rcases h.2 with ⟨rfl, hn⟩ | ⟨g, cap, rfl, _, _, _, _, hc, _⟩
  · have hl : l = [] := List.eq_nil_of_length_eq_zero hn
    subst hl
    rw [run_convert_bytes_string w _ _ 5 none 0 0 Tryd.underlying44 Tryd.underlying5 Tryd.underlying9]
    rfl
  · refine run_convert_bytes_back (P := Tryd.prog) w 44 9 5 ⟨g, 0, none⟩ cap l Tryd.underlying44 Tryd.underlying5 Tryd.underlying9 (fun j hj => ?_)
    rw [show (⟨g, 0, none⟩ : Addr).add j = ⟨g, j, none⟩ by unfold Addr.add; split <;> simp_all]
    exact hc j _ (by simp [Lib.byteCells, hj])
set_option maxRecDepth 20000 in
set_option maxHeartbeats 2000000 in
theorem refPad_any (s : ByteArray) (hs : s.size ≤ 1000000) (w : World) :
    Calls Tryd.prog 45 #[.string s] w fun e w' => e = .returned (.string ⟨(padL s.data.toList).toArray⟩) ∧ Below w.heap.size w w' := by
  have hcv := run_bytes_of_string (P := Tryd.prog) w 9 44 5 s Tryd.underlying9 Tryd.underlying44 Tryd.underlying5
  have hc1 := grownCap_ge w s.size 0 5
  have hc2 := grownCap_le_maxLen w s.size 0 5 (by unfold maxLen; omega)
  obtain ⟨cap, hcap⟩ : ∃ cap, grownCap w s.size 0 5 = cap := ⟨_, rfl⟩
  rw [hcap] at hcv hc1 hc2
  clear hcap
  have S0 := SRow.of_bytes w 5 s w.heap.size cap (Nat.le_refl _) hc1 hc2
  have B0 : Below w.heap.size w (w.drew.alloc (.cells (bytesRow s cap) 5 ((bytesRow s cap).size, (bytesRow s cap).size + 1))) := (Below.refl _ _).drew.alloc (by simp) _
  obtain ⟨w0, hw0⟩ : ∃ w0, w.drew.alloc (.cells (bytesRow s cap) 5 ((bytesRow s cap).size, (bytesRow s cap).size + 1)) = w0 := ⟨_, rfl⟩
  rw [hw0] at hcv S0 B0
  clear hw0 hc1 hc2
  have HL := Lib.hid (show s.data.toList.length = s.size from Array.length_toList)
  obtain ⟨z, hz⟩ : ∃ z, padZ s.data.toList.length = z := ⟨_, rfl⟩
  have hz2 : z = (119 - s.size % 64) % 64 := by rw [← hz, HL.out]; rfl
  have hz3 : z < 64 := by rw [hz2]; omega
  have HZ := Lib.hid hz
  have HZ2 := Lib.hid hz2
  have HS0 := Lib.hid S0
  have HB0 := Lib.hid B0
  clear hz hz2 S0 B0
  go_enter Tryd.func45, Tryd.ntmps45
  go_wp2_with (at_builtin; refine wpList_append1s rfl (.tmp 8) (.tmp 9) 44 rfl w.heap.size 5 _ 1 Tryd.underlying44 pad_info rfl (by omega) _ _ _ rfl (HS0.out.alloc _) w0.heap.size 1 (.int .u8 128) rfl (Blk.new w0 _ _) rfl (by omega) (by have := HB0.out.size; simp; omega) ?_; intro v1 w1 s1 b1)
  clear hcv
  have S1 : Hid (SRow w1 w.heap.size v1 (s.size + 1 + 0) (Lib.byteCells (padHead s.data.toList 0))) := Lib.hid (by
    have e : Lib.byteCells (padHead s.data.toList 0) = (s.data.toList.map fun b => Value.int .u8 (b.toNat : Int)) ++ [.int .u8 128] := by simp [padHead, Lib.byteCells]
    rw [e]; exact s1)
  have B1 : Below w.heap.size w w1 := (HB0.out.alloc HB0.out.size _).trans b1
  clear s1 b1
  go_loopw [3] (fun v wr => ∃ k : Nat, k ≤ z ∧ Hid (SRow wr w.heap.size v (s.size + 1 + k) (Lib.byteCells (padHead s.data.toList k))) ∧ Below w.heap.size w wr) (fun v _ => (s.size + 1 + z) - lenV v)
  case atStart => exact ⟨0, by omega, S1, B1⟩
  case round =>
    clear S1 B1
    obtain ⟨k, hk, HS, hb⟩ := hrel
    obtain ⟨A, c, rfl, _⟩ := HS.out.reads
    have hn64 : (s.size + 1 + k) % 64 = 56 ↔ k = z := by have := HZ2.out; omega
    obtain ⟨n, hn⟩ : ∃ n, s.size + 1 + k = n := ⟨_, rfl⟩
    rw [hn] at hn64 HS
    rw [hn]
    have HN := Lib.hid hn
    have hn9 : n ≤ 2000000 := by omega
    clear hn
    by_cases hlt : k < z
    · have ht : (((n : Int) % 64) != 56) = true := by rw [bne_iff_ne]; omega
      clear hn64
      have HB := Lib.hid hb
      clear hb
      go_wp2_with (at_builtin; refine wpList_append1s rfl (.tmp 15) (.tmp 16) 44 rfl w.heap.size 5 _ 1 Tryd.underlying44 pad_info rfl (by omega) _ _ _ rfl (HS.out.alloc _) wr.heap.size 1 (.int .u8 0) rfl (Blk.new wr _ _) rfl (by omega) (by have := HB.out.size; simp; omega) ?_; intro v2 w2 s2 b2)
      go_roundw
      case rel =>
        refine ⟨k + 1, by omega, Lib.hid ?_, (HB.out.alloc HB.out.size _).trans b2⟩
        rw [padHead_succ, show s.size + 1 + (k + 1) = n + 1 by have := HN.out; omega, show Lib.byteCells (padHead s.data.toList k ++ [0]) = Lib.byteCells (padHead s.data.toList k) ++ [.int .u8 0] by simp [Lib.byteCells]]
        exact s2
      case measure =>
        obtain ⟨A2, c2, rfl, _⟩ := s2.reads
        have := HN.out
        simp [lenV]; omega
    · have hkz : k = z := by omega
      have ht : (((n : Int) % 64) != 56) = false := by rw [bne_eq_false_iff_eq]; omega
      have HS2 : Hid (SRow wr w.heap.size (.slice A n c) (n + 0) (Lib.byteCells (padTo s.data.toList 0))) := Lib.hid (by
        rw [show padTo s.data.toList 0 = padHead s.data.toList (padZ s.data.toList.length) by simp [padTo], HZ.out, ← hkz]; exact HS.out)
      subst hkz
      clear hn64 hlt hk HS
      go_wp2_with fail
      go_loopw [3, 5] (fun v i wq => ∃ m : Nat, m ≤ 8 ∧ i = .int .i64 ((m : Int) - 1) ∧ Hid (SRow wq w.heap.size v (n + (8 - m)) (Lib.byteCells (padTo s.data.toList (8 - m)))) ∧ Below w.heap.size w wq) (fun _ i _ => (intOf i + 1).toNat)
      case atStart => exact ⟨8, by omega, rfl, HS2, hb⟩
      case round =>
        obtain ⟨m, hm, rfl, HT, hb2⟩ := hrel
        by_cases hl : 0 < m
        · obtain ⟨q, rfl⟩ : ∃ q, m = q + 1 := ⟨m - 1, by omega⟩
          have hq1 : ((q + 1 : Nat) : Int) - 1 = q := by omega
          rw [hq1]
          clear hq1
          have HB2 := Lib.hid hb2
          clear hb2
          have i0 : (0 : Int) ≤ 8 * (q : Int) := by omega
          have i1 : 8 * (q : Int) ≤ 64 := by omega
          have hlen := lenB_eq s.data.toList.length (8 - (q + 1))
          rw [HL.out, show 56 - 8 * (8 - (q + 1)) = 8 * q by omega] at hlen
          have HLEN := Lib.hid hlen
          clear hlen
          go_wp2_with (at_builtin; refine wpList_append1s rfl (.tmp 26) (.tmp 32) 44 rfl w.heap.size 5 _ 1 Tryd.underlying44 pad_info rfl (by omega) _ _ _ rfl (HT.out.alloc _) wr.heap.size 1 _ rfl (Blk.new wr _ _) rfl (by omega) (by have := HB2.out.size; simp; omega) ?_; intro v2 w2 s2 b2)
          go_roundw
          case rel =>
            refine ⟨q, by omega, by go_num, Lib.hid ?_, (HB2.out.alloc HB2.out.size _).trans b2⟩
            rw [byteCells_snoc _ (lenB s.data.toList.length (8 - (q + 1))) _ (by rw [HL.out, HLEN.out, Int.mul_comm]), ← padTo_succ, show 8 - (q + 1) + 1 = 8 - q by omega, show n + (8 - (q + 1)) + 1 = n + (8 - q) by omega] at s2
            exact s2
          case measure => simp [intOf]
        · have hm0 : m = 0 := by omega
          subst hm0
          have hcv := conv_srow HT.out
          clear hl hm
          go_wp2
          go_ret
          exact ⟨rfl, hb2⟩
end Go.Proofs.YtgcopgnkfokphaaDoor
